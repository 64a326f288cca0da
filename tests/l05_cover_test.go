package tests

import (
	"fmt"
	"math/bits"
	"slices"
	"testing"

	"loop.example/g00956/impl"
)

func TestOverlapsOf(t *testing.T) {
	for _, c := range []struct{ text, want string }{
		{"20x10;0,0 20,0 20,10 0,10;a 0,1,2;b 0,2,3", "[]"}, {"10x10;", "[]"}, {"10x10;0,0 10,0 10,10", "[]"}, {"10x10;0,0 10,0 10,10;a 0,1,2", "[]"},
		// Without crossing edges: the same points begun elsewhere, one inside of the other with common points and without, and one turned about the other.
		{"20x10;0,0 20,0 20,10 0,10;a 0,1,2,3;b 0,1,2,3", "[[0 1]]"}, {"20x10;0,0 20,0 20,10 0,10;a 0,1,2,3;b 2,3,0,1", "[[0 1]]"}, {"20x10;0,0 20,0 20,10 0,10 5,5;a 0,1,2,3;b 0,1,2", "[[0 1]]"},
		{"30x30;0,0 30,0 30,30 0,30 10,10 20,10 20,20;a 0,1,2,3;b 4,5,6", "[[0 1]]"}, {"30x30;0,0 30,0 30,30 0,30 10,10 20,10 20,20;a 4,5,6;b 0,1,2,3", "[[0 1]]"}, {"30x30;0,0 30,0 30,30 0,30 15,0 30,15 15,30 0,15;a 0,1,2,3;b 4,5,6,7", "[[0 1]]"},
		{"12x12;0,4 4,4 8,4 12,4 12,8 8,8 4,8 0,8 4,0 8,0 8,12 4,12;a 0,1,2,3,4,5,6,7;b 8,9,2,5,10,11,6,1", "[[0 1]]"}, {"20x20;0,0 20,0 20,20 10,10 0,20;a 0,1,2,3,4;b 0,1,2,4,3", "[[0 1]]"},
		// At a point, along a part of an edge, along whole edges, in a notch.
		{"20x20;0,0 10,0 10,10 0,10 20,10 20,20 10,20;a 0,1,2,3;b 2,4,5,6", "[]"}, {"20x20;0,0 10,0 10,10 0,10 10,5 20,5 20,15 10,15;a 0,1,2,3;b 4,5,6,7", "[]"}, {"30x30;30,30 0,0 30,0 0,30 10,10 20,10 20,30 10,30;a 1,2,0,6,5,4,7,3;b 6,7,4,5", "[]"},
		// Several pairs in order: all, those beside one another, and those with one face.
		{"20x10;0,0 20,0 20,10 0,10;a 0,1,2,3;b 0,1,2,3;c 0,1,2,3;d 0,1,2,3", "[[0 1] [0 2] [0 3] [1 2] [1 3] [2 3]]"}, {"30x10;0,0 20,0 20,10 0,10 10,0 15,0 15,10 10,10 25,10 25,0;a 0,4,7,3;b 5,9,8,6;c 0,5,6,3;d 4,1,2,7", "[[0 2] [1 3] [2 3]]"},
		{"20x10;0,0 20,0 20,10 0,10 10,0 10,10;a 0,4,5,3;b 0,1,2,3;c 4,1,2,5", "[[0 1] [1 2]]"}, {"20x10;0,0 20,0 20,10 0,10 10,0 10,10;a 0,1,2,3;b 0,4,5,3;c 4,1,2,5", "[[0 1] [0 2]]"}, {"20x10;0,0 20,0 20,10 0,10 10,0 10,10;a 0,4,5,3;b 4,1,2,5;c 0,1,2,3", "[[0 2] [1 2]]"},
	} {
		overlaps, code := impl.OverlapsOf(draw(c.text))
		checkList(t, "OverlapsOf "+c.text, overlaps, code, c.want)
	}
}

// TestOverlapsOfPairs takes the pairs of chapter 4, in both orders, and with a third face that overlaps neither of them.
func TestOverlapsOfPairs(t *testing.T) {
	for _, c := range append(slices.Clone(nearPairs), farPairs...) {
		a, b := poly(c.a), poly(c.b)
		want := [][]int64{{0, 1}}
		if c.disjoint {
			want = nil
		}
		for by, d := range []impl.Drawing{drawingOf(a, b), drawingOf(b, a), drawingOf(startAt(a, 1), startAt(b, 2))} {
			overlaps, code := impl.OverlapsOf(renumbered(d, by))
			checkList(t, fmt.Sprint("OverlapsOf ", d), overlaps, code, want)
		}
		if len(want) == 1 {
			want[0] = []int64{1, 2}
		}
		apart := poly("19000,100 19010,100 19000,110")
		if !slices.Contains(farPairs, c) {
			overlaps, code := impl.OverlapsOf(drawingOf(apart, a, b))
			checkList(t, fmt.Sprint("OverlapsOf the same and one apart ", c), overlaps, code, want)
		}
	}
}

// TestAllOverlapsOfACrowd has as many pairs as there may be.
func TestAllOverlapsOfACrowd(t *testing.T) {
	d := crowd(impl.MaxFaces)
	var want [][]int64
	for i := range impl.MaxFaces {
		for k := i + 1; k < impl.MaxFaces; k++ {
			want = append(want, []int64{int64(i), int64(k)})
		}
	}
	overlaps, code := impl.OverlapsOf(d)
	checkList(t, "OverlapsOf a crowd", overlaps, code, want)
	if area, code := impl.UncoveredArea(d); area != -23*2*most*most || code != impl.OK {
		t.Errorf("UncoveredArea of a crowd is %d, %d", area, code)
	}
}

func TestUncoveredArea(t *testing.T) {
	for _, c := range []struct {
		text string
		want int64
	}{
		{"20x10;0,0 20,0 20,10 0,10;a 0,1,2;b 0,2,3", 0}, {"20x10;0,0 20,0 20,10 0,10;a 0,1,2", 200}, {"20x10;0,0 20,0 20,10 0,10;b 0,2,3", 200}, {"20x10;0,0 20,0 20,10 0,10 20,9;a 0,1,4;b 0,2,3", 20}, {"21x10;0,0 20,0 20,10 0,10;a 0,1,2;b 0,2,3", 20},
		{"10x10;", 200}, {"10x20000;", 400000}, {"20000x10;", 400000}, {"20000x20000;", 800000000}, {"10x10;0,0 10,0 10,10 0,10", 200}, {"20000x20000;0,0 20000,0 20000,20000 0,20000;a 0,1,2,3", 0}, {"20000x20000;0,0 20000,0 20000,20000 0,20000;a 0,1,2", 400000000},
		{"20000x20000;0,0 1,0 0,1;a 0,1,2", 799999999},
		// Areas count as often as faces have them.
		{"20x10;0,0 20,0 20,10 0,10;a 0,1,2;b 1,2,0", 0}, {"20x10;0,0 20,0 20,10 0,10;a 0,1,2,3;b 0,1,2", -200}, {"20x10;0,0 20,0 20,10 0,10;a 0,1,2,3;b 0,1,2,3", -400}, {"20x10;0,0 20,0 20,10 0,10 19,10;a 0,1,2,3;b 0,1,4", -200}, {"20x10;0,0 20,0 20,10 0,10 19,10;a 0,1,2;b 0,2,3;c 2,4,0", -10},
	} {
		if got, code := impl.UncoveredArea(draw(c.text)); got != c.want || code != impl.OK {
			t.Errorf("UncoveredArea(%s) is %d, %d, want %d", c.text, got, code, c.want)
		}
	}
	for _, d := range goodDrawings() {
		want := 2 * d.Width * d.Height
		for k := range d.Faces {
			want -= fanArea(polygonOf(d, k))
		}
		if got, code := impl.UncoveredArea(d); got != want || code != impl.OK {
			t.Errorf("UncoveredArea(%v) is %d, %d, want %d", d, got, code, want)
		}
	}
}

func TestCoversPanel(t *testing.T) {
	for _, d := range covers() {
		if !impl.CoversPanel(d) {
			t.Errorf("the faces of %v cover its panel", d)
		}
	}
	for k, text := range looseTexts {
		if d := draw(text); impl.CoversPanel(d) || len(d.Points) > 0 && impl.CoversPanel(renumbered(d, k)) {
			t.Errorf("the faces of %s do not cover its panel", text)
		}
	}
	// The areas add up to that of the panel, but the faces overlap: without crossing edges, and with.
	for _, text := range []string{
		"20x10;0,0 20,0 20,10 0,10;a 0,1,2;b 0,1,2", "20x10;0,0 20,0 20,10 0,10;a 0,1,2;b 1,2,3", "20x20;0,0 10,0 10,20 0,20 5,0 15,0 15,20 5,20;a 0,1,2,3;b 4,5,6,7", "20x10;0,0 20,0 20,10 0,10 10,0 10,10;a 0,4,5,3;b 0,4,5;c 0,5,3",
		"30x10;0,0 20,0 20,10 0,10 10,0 10,10;a 0,1,2,3;b 4,1,2,5",
	} {
		d := draw(text)
		if area, code := impl.UncoveredArea(d); area != 0 || code != impl.OK || impl.CoversPanel(d) {
			t.Errorf("of %s, the area %d is uncovered, %d, and CoversPanel is %v", text, area, code, impl.CoversPanel(d))
		}
	}
}

// gridDrawing has the polygons of a small grid, five times as large, on a panel of the whole grid.
func gridDrawing(polygons ...gridPolygon) impl.Drawing {
	d := impl.Drawing{Width: 10, Height: 10}
	for _, p := range grid(3) {
		d.Points = append(d.Points, pt(5*p.X, 5*p.Y))
	}
	for n, polygon := range polygons {
		face := impl.Face{Name: letter(n)}
		for _, p := range polygon.points {
			face.Ring = append(face.Ring, int64(slices.Index(grid(3), p)))
		}
		d.Faces = append(d.Faces, face)
	}
	return d
}

// checkGridDrawing compares with the cells of the polygons, and reports whether they cover the panel.
func checkGridDrawing(t *testing.T, polygons ...gridPolygon) bool {
	t.Helper()
	d := gridDrawing(polygons...)
	var want [][]int64
	var union uint64
	for i, p := range polygons {
		union |= p.cells
		for k := i + 1; k < len(polygons); k++ {
			if p.cells&polygons[k].cells != 0 {
				want = append(want, []int64{int64(i), int64(k)})
			}
		}
	}
	if overlaps, code := impl.OverlapsOf(d); fmt.Sprint(overlaps) != fmt.Sprint(want) || code != impl.OK {
		t.Fatalf("OverlapsOf(%v) is %v, %d, want %v", d, overlaps, code, want)
	}
	covered := len(want) == 0 && bits.OnesCount64(union) == len(gridCells())
	if got := impl.CoversPanel(d); got != covered {
		t.Fatalf("CoversPanel(%v) is %v", d, got)
	}
	return covered
}

func TestPairsAndTriplesOfSmallPolygons(t *testing.T) {
	sums := 0
	forGridPairs(40, func(a, b gridPolygon, _ bool) {
		checkGridDrawing(t, a, b)
		if fanArea(a.points)+fanArea(b.points) == 8 && a.cells&b.cells != 0 {
			sums++
		}
	})
	if sums < 100 {
		t.Errorf("only %d pairs overlap and have the area of the panel", sums)
	}
	all := gridPolygons()
	for k := range all {
		checkGridDrawing(t, all[k], all[k*7%len(all)], all[k*31%len(all)], all[k*k%len(all)])
	}
}

// gridCovers are the ways to cover the panel of the grid with up to three different polygons.
func gridCovers() [][]gridPolygon {
	all := gridPolygons()
	byCells := map[uint64][]gridPolygon{}
	for _, p := range all {
		byCells[p.cells] = append(byCells[p.cells], p)
	}
	whole := uint64(1)<<len(gridCells()) - 1
	var found [][]gridPolygon
	for i, a := range all {
		if a.cells == whole {
			found = append(found, []gridPolygon{a})
		}
		for _, b := range byCells[whole&^a.cells] {
			found = append(found, []gridPolygon{a, b})
		}
		for _, b := range all[i:] {
			if a.cells&b.cells == 0 {
				for _, c := range byCells[whole&^(a.cells|b.cells)] {
					found = append(found, []gridPolygon{c, a, b})
				}
			}
		}
	}
	return found
}

// checkCover is promise 6.
func checkCover(t *testing.T, d impl.Drawing, points []impl.Point) {
	t.Helper()
	if area, code := impl.UncoveredArea(d); !impl.CoversPanel(d) || area != 0 || code != impl.OK {
		t.Fatalf("the faces of %v do not cover its panel; the area %d is uncovered, %d", d, area, code)
	}
	for _, p := range points {
		k, code := impl.FaceAt(d, p)
		if place, _ := impl.Inside(polygonOf(d, int(k)), p); code != impl.OK || place < 0 {
			t.Fatalf("FaceAt(%v, %v) is %d, %d", d, p, k, code)
		}
	}
	for k := range d.Faces {
		less := changed(d, func(d *impl.Drawing) { d.Faces = slices.Delete(d.Faces, k, k+1) })
		polygon, _ := impl.FacePolygon(d, int64(k))
		want, _ := impl.AreaTwice(polygon)
		if area, code := impl.UncoveredArea(less); area != want || code != impl.OK || impl.CoversPanel(less) {
			t.Fatalf("without the face %d of %v, the area %d is uncovered, %d, want %d", k, d, area, code, want)
		}
		for _, p := range points {
			if place, _ := impl.Inside(polygon, p); place <= 0 {
				continue
			}
			if _, code := impl.FaceAt(less, p); code != impl.ErrNotFound {
				t.Fatalf("without the face %d of %v, FaceAt %v returns the code %d", k, d, p, code)
			}
		}
	}
}

// pointsOfPanel are all points of a small panel, and otherwise some of all parts of it, and those beside the points of the drawing.
func pointsOfPanel(d impl.Drawing) []impl.Point {
	var points []impl.Point
	for _, x := range placesTo(d.Width) {
		for _, y := range placesTo(d.Height) {
			points = append(points, pt(x, y))
		}
	}
	for _, p := range d.Points {
		for _, q := range []impl.Point{p, pt(p.X-1, p.Y), pt(p.X+1, p.Y), pt(p.X, p.Y-1), pt(p.X, p.Y+1), pt(p.X-1, p.Y-1)} {
			if 0 <= q.X && q.X <= d.Width && 0 <= q.Y && q.Y <= d.Height {
				points = append(points, q)
			}
		}
	}
	return points
}

func placesTo(length int64) []int64 {
	steps := min(length, 30)
	places := []int64{1, length - 1}
	for k := range steps + 1 {
		places = append(places, length*k/steps)
	}
	return places
}

func TestCoversAreEverywhere(t *testing.T) {
	for _, d := range covers() {
		checkCover(t, d, pointsOfPanel(d))
	}
}

func TestCoversOfTheGridAreEverywhere(t *testing.T) {
	found := gridCovers()
	counts := map[int]int{}
	for n, polygons := range found {
		if !checkGridDrawing(t, polygons...) {
			t.Fatalf("%v does not cover its panel", gridDrawing(polygons...))
		}
		if counts[len(polygons)]++; n%7 == 0 {
			d := gridDrawing(polygons...)
			checkCover(t, d, pointsOfPanel(d))
		}
	}
	if counts[1] < 1 || counts[2] < 20 || counts[3] < 100 {
		t.Errorf("covers by their numbers of faces: %v", counts)
	}
}
