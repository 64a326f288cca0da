package tests

import (
	"fmt"
	"math"
	"slices"
	"testing"

	"loop.example/g00956/impl"
)

// makers are all functions of chapter 6 that make a drawing.
var makers = map[string]func(d impl.Drawing, n, m int64) (impl.Drawing, int64){
	"SnapDrawing":     func(d impl.Drawing, n, _ int64) (impl.Drawing, int64) { return impl.SnapDrawing(d, n) },
	"MergePoints":     func(d impl.Drawing, n, _ int64) (impl.Drawing, int64) { return impl.MergePoints(d, n) },
	"InsertJunctions": func(d impl.Drawing, _, _ int64) (impl.Drawing, int64) { return impl.InsertJunctions(d) },
	"DropStraight":    func(d impl.Drawing, _, _ int64) (impl.Drawing, int64) { return impl.DropStraight(d) },
	"DropUnused":      func(d impl.Drawing, _, _ int64) (impl.Drawing, int64) { return impl.DropUnused(d) },
	"CleanDrawing":    func(d impl.Drawing, n, _ int64) (impl.Drawing, int64) { return impl.CleanDrawing(d, n) },
	"JoinFaces":       impl.JoinFaces,
}

// cleaningResults calls every function of chapter 6.
func cleaningResults(d impl.Drawing, n, m int64) string {
	junctions, junctionsCode := impl.JunctionsOf(d)
	straight, straightCode := impl.StraightPoints(d)
	slivers, sliversCode := impl.SliversOf(d, n)
	text := fmt.Sprint(junctions, junctionsCode, straight, straightCode, slivers, sliversCode, impl.IsClean(d))
	for _, name := range []string{"SnapDrawing", "MergePoints", "InsertJunctions", "DropStraight", "DropUnused", "CleanDrawing", "JoinFaces"} {
		made, code := makers[name](d, n, m)
		text += fmt.Sprint(" ", name, made, code)
	}
	return text
}

// checkSameCleaningAgain calls with a drawing that has marks behind its slices, and with a copy that has none.
func checkSameCleaningAgain(t *testing.T, d impl.Drawing, n, m int64) {
	t.Helper()
	spare, whole := drawingWithSpare(d)
	before := whole()
	first := cleaningResults(spare, n, m)
	second := cleaningResults(copyOf(d), n, m)
	if first != second {
		t.Fatalf("%.300v %d %d: %s and then %s", fmt.Sprint(d), n, m, first, second)
	}
	if before != whole() {
		t.Fatalf("%.300v %d %d: the drawing or what lies behind its slices is changed", fmt.Sprint(d), n, m)
	}
}

func TestCleaningIsTheSameAgain(t *testing.T) {
	for seed, d := range append(goodDrawings(), messyDrawings()...) {
		checkSameCleaningAgain(t, d, int64(seed%4), 1)
		checkSameCleaningAgain(t, d, 1, int64(seed%40))
		if seed%5 == 0 {
			checkSameCleaningAgain(t, d, impl.MaxTolerance, math.MinInt64)
		}
	}
	forBadDrawings(func(_ string, d impl.Drawing) {
		if len(d.Points)+len(d.Faces) < 1000 {
			checkSameCleaningAgain(t, d, 0, 1)
		}
	})
}

// TestOrderOfMapsDoesNotShowInCleaning calls often, because a map may hold its keys in the wanted order by chance.
func TestOrderOfMapsDoesNotShowInCleaning(t *testing.T) {
	for _, d := range []impl.Drawing{draw(bricks), renumbered(draw(bricks), 5), studded(fullMesh(), 3), studded(mesh(4, 3, 300), 1), combs(4, 19), renumbered(combs(3, 20), 7), crowd(impl.MaxFaces), dots(impl.MaxPoints), drawingOf(strip(24)), messyDrawings()[7]} {
		first := cleaningResults(d, 2, 1)
		for range 100 {
			if again := cleaningResults(d, 2, 1); again != first {
				t.Fatalf("%s and then %s", first, again)
			}
		}
	}
}

// TestFarNumbersInCleaning puts each of the far numbers into each number of a drawing, and into each argument.
func TestFarNumbersInCleaning(t *testing.T) {
	for _, text := range []string{coverTexts[0], coverTexts[3], "40x20;0,0 20,0 40,0 40,20 20,20 0,20 20,10 3,3;a 0,1,4,5;b 1,2,3,4,6"} {
		d := draw(text)
		for _, far := range farCoordinates {
			for _, other := range farCoordinates {
				checkSameCleaningAgain(t, d, far, other)
			}
		}
		places := numbersOf(&d)
		for n, place := range places {
			kept := *place
			for x, far := range farCoordinates {
				*place = far
				checkSameCleaningAgain(t, d, int64(n%3), far)
				next := places[(n+x+1)%len(places)]
				keptNext := *next
				*next = farCoordinates[(x*5+n)%len(farCoordinates)]
				checkSameCleaningAgain(t, d, far, *next)
				*next = keptNext
			}
			*place = kept
		}
	}
}

// TestCleaningOfFarDrawings has all numbers of points and faces, at the limits of the coordinates and beyond them.
func TestCleaningOfFarDrawings(t *testing.T) {
	size := len(farCoordinates)
	valid := 0
	for seed := range 8 * size * size {
		within := []int64{0, 1, 7, 199, 200, 201, most / 2, most - 200, most - 199, most - 1, most}
		far := func(k int) int64 {
			if seed%4 > 0 {
				return within[(seed+seed/7*k+k*k*3)%len(within)]
			}
			return farCoordinates[(seed+seed/size*k+k*k*3)%size]
		}
		d := impl.Drawing{Width: most, Height: most}
		for k := range seed % 51 {
			if p := pt(far(k), far(k+seed%7+1)); !slices.Contains(d.Points, p) {
				d.Points = append(d.Points, p)
			}
		}
		for k := range seed / 3 % 26 {
			face := impl.Face{Name: letter(k)}
			for n := range 3 + (seed+k)%2 {
				face.Ring = append(face.Ring, int64((seed*n+k*(n+1))%(len(d.Points)+1)))
			}
			with := changed(d, func(d *impl.Drawing) { d.Faces = append(d.Faces, face) })
			if impl.ValidDrawing(with) || seed%8 == 0 {
				d = with
			}
		}
		if impl.ValidDrawing(d) && len(d.Faces) > 0 {
			valid++
			checkSteps(t, d)
			checkCleaning(t, d, tolerances[seed%len(tolerances)])
		}
		checkSameCleaningAgain(t, d, far(3), far(4))
	}
	if valid < 300 {
		t.Errorf("only %d drawings are valid", valid)
	}
}

func TestNilAndEmptyAreEquivalentInCleaning(t *testing.T) {
	for _, text := range []string{"10x10;", "10x10;0,0", "10x10;0,0 10,0 10,10;a -", "10x10;0,0 10,0 10,10;a 0,1,2", "10x10;0,0 10,0 10,10;a 0,1,2;b -", "9x10;"} {
		d := draw(text)
		empty := changed(d, func(d *impl.Drawing) {
			d.Points, d.Faces = append([]impl.Point{}, d.Points...), append([]impl.Face{}, d.Faces...)
			for k := range d.Faces {
				d.Faces[k].Ring = append([]int64{}, d.Faces[k].Ring...)
			}
		})
		for n := int64(-1); n < 12; n++ {
			if first, second := cleaningResults(d, n, 0), cleaningResults(empty, n, 0); first != second {
				t.Errorf("%s: %s and then %s", text, first, second)
			}
		}
	}
}

// allMemory writes down all that the slices of a drawing hold, also behind their ends.
func allMemory(d impl.Drawing) string {
	text := fmt.Sprint(d.Width, d.Height, d.Points[:cap(d.Points)])
	for _, face := range d.Faces[:cap(d.Faces)] {
		text += fmt.Sprint(face.Name, face.Ring[:cap(face.Ring)])
	}
	return text
}

// fillDrawing writes into all memory of a drawing.
func fillDrawing(d impl.Drawing, mark int64) {
	fill(d.Points[:cap(d.Points)])
	for k := range d.Faces[:cap(d.Faces)] {
		face := &d.Faces[:cap(d.Faces)][k]
		for n := range face.Ring[:cap(face.Ring)] {
			face.Ring[:cap(face.Ring)][n] = mark
		}
		face.Name, face.Ring = "changed", nil
	}
}

func ringsOf(d impl.Drawing) [][]int64 {
	var rings [][]int64
	for _, face := range d.Faces {
		rings = append(rings, face.Ring)
	}
	return rings
}

// TestMadeDrawingsAreNewMemory also has drawings in which nothing is to do.
func TestMadeDrawingsAreNewMemory(t *testing.T) {
	all := append(goodDrawings(), draw(bricks), combs(4, 20), draw("100x100;2,1 50,0 99,0 100,40 98,100 50,100 0,97 50,40 51,42 20,80 75,0;a 0,1,5,6;b 8,3,4,5;c 1,10,2,3,7"))
	for what, made := range makers {
		unchanged, others := 0, 0
		for k, d := range append(all, messyDrawings()[:40]...) {
			n, m := int64(k%3), int64((k+1)%3)
			spare, whole := drawingWithSpare(d)
			before := whole()
			kept, code := made(spare, n, m)
			if code != impl.OK {
				continue
			}
			if impl.SameDrawing(kept, d) {
				unchanged++
			} else {
				others++
			}
			want := allMemory(kept)
			other, _ := made(spare, n, m)
			if !staysApart(ringsOf(other), func(k int) int64 { return int64(-k - 1) }) {
				t.Fatalf("%s: two Rings of the result for %v share memory", what, d)
			}
			fillDrawing(other, -7)
			again, _ := made(spare, n, m)
			if whole() != before || allMemory(kept) != want || !impl.SameDrawing(again, kept) {
				t.Fatalf("%s: the result for %v shares memory with it or with another one", what, d)
			}
			fillDrawing(spare, -9)
			if allMemory(kept) != want {
				t.Fatalf("%s: the result for %v changes with it", what, d)
			}
		}
		if others < 2 || unchanged < 100 && what != "JoinFaces" {
			t.Errorf("%s changes %d drawings, and %d not", what, others, unchanged)
		}
	}
}

// TestListsOfCleaningAreNewMemory writes a mark of its own into each list of a result, and over the drawing.
func TestListsOfCleaningAreNewMemory(t *testing.T) {
	for what, lists := range map[string]func(d impl.Drawing) [][]int64{
		"JunctionsOf":    func(d impl.Drawing) [][]int64 { list, _ := impl.JunctionsOf(d); return list },
		"StraightPoints": func(d impl.Drawing) [][]int64 { list, _ := impl.StraightPoints(d); return [][]int64{list} },
		"SliversOf":      func(d impl.Drawing) [][]int64 { list, _ := impl.SliversOf(d, 2000); return [][]int64{list} },
	} {
		for _, d := range append(goodDrawings(), messyDrawings()...) {
			spare, whole := drawingWithSpare(d)
			before := whole()
			kept := lists(spare)
			want := fmt.Sprint(kept)
			if !staysApart(lists(spare), func(k int) int64 { return int64(-k - 1) }) {
				t.Fatalf("%s: two lists of a result for %v share memory", what, d)
			}
			if whole() != before || fmt.Sprint(kept) != want || fmt.Sprint(lists(spare)) != want {
				t.Fatalf("%s: the lists for %v share memory with it or with others", what, d)
			}
			fillDrawing(spare, -5)
			if fmt.Sprint(kept) != want || fmt.Sprint(lists(d)) != want {
				t.Fatalf("%s: the lists for %v change with it or with others", what, d)
			}
		}
	}
}

// TestRingsMayShareMemoryInCleaning has Rings that lie in one list, one behind the other, one within the other, and twice.
func TestRingsMayShareMemoryInCleaning(t *testing.T) {
	list := []int64{0, 1, 2, 3, 0, 2, 4}
	d := draw("20x10;0,0 20,0 20,10 0,10 5,5 10,5")
	for k, ring := range [][]int64{list[:4], list[:3], list[:4], list[1:4], list[3:6], list[:3:3], list[2:5]} {
		d.Faces = append(d.Faces, impl.Face{Name: letter(k), Ring: ring})
	}
	if !impl.ValidDrawing(d) {
		t.Fatalf("%v is valid", d)
	}
	kept := slices.Clone(list)
	for n := range int64(9) {
		first := cleaningResults(d, n, n/2)
		if second := cleaningResults(copyOf(d), n, n/2); first != second || !slices.Equal(list, kept) {
			t.Fatalf("%s, and with copies %s", first, second)
		}
		for what, made := range makers {
			if got, _ := made(d, n, n/2); !staysApart(ringsOf(got), func(k int) int64 { return int64(-k - 1) }) || !slices.Equal(list, kept) {
				t.Fatalf("%s(%v, %d): Rings share memory", what, d, n)
			}
		}
	}
}
