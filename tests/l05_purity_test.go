package tests

import (
	"fmt"
	"math"
	"slices"
	"testing"

	"loop.example/g00956/impl"
)

// drawingResults calls every function of chapter 5 that takes a drawing.
func drawingResults(d, other impl.Drawing, i, k int64, name string, p impl.Point) string {
	polygon, polygonCode := impl.FacePolygon(d, k)
	named, namedCode := impl.FaceNamed(d, name)
	edges, edgesCode := impl.EdgesOf(d)
	faces, facesCode := impl.FacesOfEdge(d, i, k)
	near, nearCode := impl.NeighboursOf(d, k)
	overlaps, overlapsCode := impl.OverlapsOf(d)
	area, areaCode := impl.UncoveredArea(d)
	at, atCode := impl.FaceAt(d, p)
	unused, unusedCode := impl.UnusedPoints(d)
	return fmt.Sprint(impl.ValidDrawing(d), impl.SameDrawing(d, other), impl.SameDrawing(other, d), polygon, polygonCode, named, namedCode, edges, edgesCode, faces, facesCode,
		near, nearCode, overlaps, overlapsCode, area, areaCode, impl.CoversPanel(d), at, atCode, unused, unusedCode, impl.DrawingText(d))
}

// drawingWithSpare is a copy with marks behind its points, its faces and all Rings; whole returns all of it, with the marks.
func drawingWithSpare(d impl.Drawing) (spare impl.Drawing, whole func() string) {
	const marks = 30
	spare = copyOf(d)
	spare.Points = append(spare.Points, withSpare(nil, pt(math.MaxInt64-7, 77))...)[:len(d.Points)]
	for k := range spare.Faces {
		spare.Faces[k].Ring = append(spare.Faces[k].Ring, slices.Repeat([]int64{-99}, marks)...)[:len(d.Faces[k].Ring)]
	}
	spare.Faces = append(spare.Faces, slices.Repeat([]impl.Face{{Name: "mark", Ring: []int64{7, 7}}}, marks)...)[:len(d.Faces)]
	kept := spare
	return spare, func() string {
		text := fmt.Sprint(kept.Width, kept.Height, kept.Points[:cap(kept.Points)])
		for _, face := range kept.Faces[:cap(kept.Faces)] {
			text += fmt.Sprint(face.Name, len(face.Ring), face.Ring[:cap(face.Ring)])
		}
		return text
	}
}

// checkSameDrawingAgain calls with a drawing that has marks behind its slices, and with a copy that has none.
func checkSameDrawingAgain(t *testing.T, d, other impl.Drawing, i, k int64, name string, p impl.Point) {
	t.Helper()
	spare, whole := drawingWithSpare(d)
	otherSpare, otherWhole := drawingWithSpare(other)
	before, otherBefore := whole(), otherWhole()
	first := drawingResults(spare, otherSpare, i, k, name, p)
	second := drawingResults(copyOf(d), copyOf(other), i, k, name, p)
	if first != second {
		t.Fatalf("%.300v %d %d %q %v: %s and then %s", fmt.Sprint(d), i, k, name, p, first, second)
	}
	if before != whole() || otherBefore != otherWhole() {
		t.Fatalf("%.300v %d %d %q %v: a drawing or what lies behind its slices is changed", fmt.Sprint(d), i, k, name, p)
	}
}

func TestDrawingsAreTheSameAgain(t *testing.T) {
	for n, d := range goodDrawings() {
		for k := range int64(4) {
			checkSameDrawingAgain(t, d, copyOf(d), k, int64(len(d.Faces))-1-k, letter(int(k)), pt(k*7, int64(n)))
			checkSameDrawingAgain(t, d, draw(coverTexts[k]), -k, k, "", pt(10, 10-k))
		}
		checkSameDrawingAgain(t, d, impl.Drawing{}, math.MinInt64, math.MaxInt64, "A", pt(math.MinInt64, 0))
	}
	forBadDrawings(func(_ string, d impl.Drawing) {
		if len(d.Points)+len(d.Faces) < 1000 {
			checkSameDrawingAgain(t, d, copyOf(d), 0, 1, "a", pt(5, 5))
			checkSameDrawingAgain(t, d, impl.Drawing{}, -1, math.MaxInt64, "", pt(-1, 5))
		}
	})
}

// TestOrderOfMapsDoesNotShow calls often, because a map may hold its keys in the wanted order by chance.
func TestOrderOfMapsDoesNotShow(t *testing.T) {
	for _, d := range []impl.Drawing{fullMesh(), renumbered(fullMesh(), 7), crowd(impl.MaxFaces), dots(impl.MaxPoints), draw(coverTexts[6]), draw(looseTexts[4]), draw(looseTexts[8])} {
		first := drawingResults(d, d, 0, 1, "b", pt(3, 3))
		for range 100 {
			if again := drawingResults(d, d, 0, 1, "b", pt(3, 3)); again != first {
				t.Fatalf("%s and then %s", first, again)
			}
		}
	}
}

// TestFarNumbersInDrawings puts each of the far numbers into each number of drawings, and into two of them.
func TestFarNumbersInDrawings(t *testing.T) {
	for _, text := range []string{coverTexts[0], coverTexts[3], looseTexts[5], looseTexts[13], fan} {
		d := draw(text)
		places := numbersOf(&d)
		for n, place := range places {
			kept := *place
			for x, far := range farCoordinates {
				*place = far
				checkSameDrawingAgain(t, d, draw(text), far, 1, "a", pt(far, 4))
				checkSameDrawingAgain(t, d, d, 0, far, "c", pt(4, far))
				next := places[(n+x+1)%len(places)]
				keptNext := *next
				*next = farCoordinates[(x*5+n)%len(farCoordinates)]
				checkSameDrawingAgain(t, d, d, far, *next, "b", pt(1, 1))
				*next = keptNext
			}
			*place = kept
		}
	}
}

// TestFarDrawings have far numbers in all places, and all numbers of points, faces and indices.
func TestFarDrawings(t *testing.T) {
	size := len(farCoordinates)
	for seed := range 3 * size * size {
		far := func(k int) int64 { return farCoordinates[(seed+seed/size*k+k*k*3)%size] }
		d := impl.Drawing{Width: far(1), Height: far(2)}
		if seed%3 > 0 {
			d.Width, d.Height = most, 10
		}
		for k := range seed % 51 {
			d.Points = append(d.Points, pt(far(k), far(k+1)))
		}
		for k := range seed / 3 % 27 {
			d.Faces = append(d.Faces, impl.Face{Name: oddTexts()[k%16]})
			for n := range (seed + k) % 27 {
				d.Faces[k].Ring = append(d.Faces[k].Ring, far(n+k))
			}
		}
		checkSameDrawingAgain(t, d, copyOf(d), far(3), far(4), oddTexts()[seed%16], pt(far(5), far(6)))
	}
}

func TestNilAndEmptyDrawingsAreEquivalent(t *testing.T) {
	for _, text := range []string{"10x10;", "10x10;0,0", "10x10;0,0 10,0 10,10;a -", "10x10;0,0 10,0 10,10;a 0,1,2;b -", "9x10;"} {
		d := draw(text)
		empty := changed(d, func(d *impl.Drawing) {
			d.Points, d.Faces = append([]impl.Point{}, d.Points...), append([]impl.Face{}, d.Faces...)
			for k := range d.Faces {
				d.Faces[k].Ring = append([]int64{}, d.Faces[k].Ring...)
			}
		})
		for k := int64(-1); k < 3; k++ {
			if first, second := drawingResults(d, empty, k, 0, "a", pt(1, 1)), drawingResults(empty, d, k, 0, "a", pt(1, 1)); first != second {
				t.Errorf("%s: %s and then %s", text, first, second)
			}
		}
	}
}

// TestRingsMayShareMemory has Rings that lie in one list, one behind the other, one within the other, and twice.
func TestRingsMayShareMemory(t *testing.T) {
	list := []int64{0, 1, 2, 3, 0, 2, 4}
	d := draw("20x10;0,0 20,0 20,10 0,10 5,5")
	for k, ring := range [][]int64{list[:4], list[:3], list[:4], list[1:4], list[3:6], list[:3:3], list[2:5]} {
		d.Faces = append(d.Faces, impl.Face{Name: letter(k), Ring: ring})
	}
	if !impl.ValidDrawing(d) {
		t.Fatalf("%v is valid", d)
	}
	kept := slices.Clone(list)
	for k := range int64(len(d.Faces)) {
		first := drawingResults(d, d, 0, k, "b", pt(3, 3))
		if second := drawingResults(copyOf(d), copyOf(d), 0, k, "b", pt(3, 3)); first != second || !slices.Equal(list, kept) {
			t.Fatalf("%s, and with copies %s", first, second)
		}
	}
}

// drawingLists are the functions that return lists of numbers.
var drawingLists = map[string]func(d impl.Drawing) [][]int64{
	"EdgesOf":      func(d impl.Drawing) [][]int64 { list, _ := impl.EdgesOf(d); return list },
	"OverlapsOf":   func(d impl.Drawing) [][]int64 { list, _ := impl.OverlapsOf(d); return list },
	"UnusedPoints": func(d impl.Drawing) [][]int64 { list, _ := impl.UnusedPoints(d); return [][]int64{list} },
	"FacesOfEdge": func(d impl.Drawing) [][]int64 {
		var all [][]int64
		for k := range int64(len(d.Points)) {
			list, _ := impl.FacesOfEdge(d, k, (k+1)%int64(len(d.Points)))
			all = append(all, list)
		}
		return all
	},
	"NeighboursOf": func(d impl.Drawing) [][]int64 {
		var all [][]int64
		for k := range d.Faces {
			list, _ := impl.NeighboursOf(d, int64(k))
			all = append(all, list)
		}
		return all
	},
	"ReadDrawing": func(d impl.Drawing) [][]int64 {
		e, _ := impl.ReadDrawing(impl.DrawingText(d))
		var all [][]int64
		for _, face := range e.Faces {
			all = append(all, face.Ring)
		}
		return all
	},
}

// TestListsOfDrawingsAreNewMemory writes a mark of its own into each list of a result, and over the drawing.
func TestListsOfDrawingsAreNewMemory(t *testing.T) {
	for what, lists := range drawingLists {
		for _, d := range goodDrawings() {
			spare, whole := drawingWithSpare(d)
			before := whole()
			kept := lists(spare)
			want := fmt.Sprint(kept)
			if !staysApart(lists(spare), func(k int) int64 { return int64(-k - 1) }) {
				t.Errorf("%s: two lists of a result for %v share memory", what, d)
			}
			if whole() != before || fmt.Sprint(kept) != want || fmt.Sprint(lists(spare)) != want {
				t.Errorf("%s: the lists for %v share memory with it or with others", what, d)
			}
			for k := range spare.Faces {
				ring := spare.Faces[k].Ring
				for n := range ring[:cap(ring)] {
					ring[:cap(ring)][n] = -5
				}
			}
			if fmt.Sprint(kept) != want || fmt.Sprint(lists(d)) != want {
				t.Errorf("%s: the lists for %v change with it or with others", what, d)
			}
		}
	}
}

// drawingPoints are the functions that return points.
var drawingPoints = map[string]func(d impl.Drawing) []impl.Point{
	"FacePolygon first": func(d impl.Drawing) []impl.Point { p, _ := impl.FacePolygon(d, 0); return p },
	"FacePolygon last":  func(d impl.Drawing) []impl.Point { p, _ := impl.FacePolygon(d, int64(len(d.Faces))-1); return p },
	"ReadDrawing":       func(d impl.Drawing) []impl.Point { e, _ := impl.ReadDrawing(impl.DrawingText(d)); return e.Points },
}

func TestPointsOfDrawingsAreNewMemory(t *testing.T) {
	for what, points := range drawingPoints {
		for _, d := range goodDrawings() {
			spare, whole := drawingWithSpare(d)
			before := whole()
			kept, other := points(spare), points(spare)
			want := slices.Clone(kept)
			fill(other[:cap(other)])
			if whole() != before {
				t.Errorf("%s: the result shares memory with %v", what, d)
			}
			fill(spare.Points[:cap(spare.Points)])
			if !slices.Equal(kept, want) || !slices.Equal(points(d), want) {
				t.Errorf("%s: the result for %v changes with another one or with the argument", what, d)
			}
		}
	}
}

// TestFacesThatAreReadAreNewMemory changes one drawing that is read.
func TestFacesThatAreReadAreNewMemory(t *testing.T) {
	for _, text := range append(coverTexts, looseTexts...) {
		kept, _ := impl.ReadDrawing(text)
		other, _ := impl.ReadDrawing(text)
		for k := range other.Faces[:cap(other.Faces)] {
			other.Faces[:cap(other.Faces)][k] = impl.Face{Name: "changed"}
		}
		if again, ok := impl.ReadDrawing(text); fmt.Sprint(kept) != fmt.Sprint(draw(text)) || fmt.Sprint(again) != fmt.Sprint(kept) || !ok {
			t.Errorf("%s is read as %v and as %v", text, kept, again)
		}
	}
}

func TestEveryDrawingTextReturnsTheSameAgain(t *testing.T) {
	for _, s := range slices.Concat(oddTexts(), notDecimal, goodTexts, coverTexts, looseTexts) {
		for _, text := range []string{s, s + ";a 0,1,2", "10x10;" + s, "20x10;0,0 20,0 20,10;" + s} {
			first, firstOK := impl.ReadDrawing(text)
			second, secondOK := impl.ReadDrawing(text)
			if fmt.Sprint(first) != fmt.Sprint(second) || firstOK != secondOK {
				t.Fatalf("%.200q: %v, %v and then %v, %v", text, first, firstOK, second, secondOK)
			}
		}
	}
}
