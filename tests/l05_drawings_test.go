package tests

import (
	"fmt"
	"math"
	"slices"
	"strconv"
	"strings"
	"testing"

	"loop.example/g00956/impl"
)

// draw returns the drawing of a text, which need not be valid; "-" stands for a Ring without indices.
func draw(text string) impl.Drawing {
	parts := strings.Split(text, ";")
	var d impl.Drawing
	if n, err := fmt.Sscanf(parts[0], "%dx%d", &d.Width, &d.Height); n != 2 || err != nil {
		panic(text)
	}
	d.Points = poly(parts[1])
	for _, part := range parts[2:] {
		name, list, _ := strings.Cut(part, " ")
		face := impl.Face{Name: name}
		for _, word := range strings.Split(list, ",") {
			if k, err := strconv.ParseInt(word, 10, 64); err == nil {
				face.Ring = append(face.Ring, k)
			} else if list != "-" {
				panic(text)
			}
		}
		d.Faces = append(d.Faces, face)
	}
	return d
}

// drawingOf returns a drawing with the polygons, which need not be valid, on the least panel for their points.
func drawingOf(polygons ...[]impl.Point) impl.Drawing {
	d := impl.Drawing{Width: impl.MinPanel, Height: impl.MinPanel}
	for n, p := range polygons {
		face := impl.Face{Name: letter(n)}
		for _, corner := range p {
			k := slices.Index(d.Points, corner)
			if k < 0 {
				k = len(d.Points)
				d.Points = append(d.Points, corner)
			}
			face.Ring = append(face.Ring, int64(k))
			d.Width, d.Height = max(d.Width, corner.X), max(d.Height, corner.Y)
		}
		d.Faces = append(d.Faces, face)
	}
	return d
}

// letter returns different names in ascending order, for n from 0 to 25.
func letter(n int) string { return string(rune('a' + n)) }

// polygonOf returns the points of a face of a drawing that may be invalid, but has them all.
func polygonOf(d impl.Drawing, face int) []impl.Point {
	var p []impl.Point
	for _, k := range d.Faces[face].Ring {
		p = append(p, d.Points[k])
	}
	return p
}

// copyOf shares no memory with the drawing.
func copyOf(d impl.Drawing) impl.Drawing {
	d.Points, d.Faces = slices.Clone(d.Points), slices.Clone(d.Faces)
	for k := range d.Faces {
		d.Faces[k].Ring = slices.Clone(d.Faces[k].Ring)
	}
	return d
}

// changed returns a copy to which the change is made.
func changed(d impl.Drawing, change func(d *impl.Drawing)) impl.Drawing {
	d = copyOf(d)
	change(&d)
	return d
}

// renumbered has the points in another order, and begins the Rings elsewhere.
func renumbered(d impl.Drawing, by int) impl.Drawing {
	n := len(d.Points)
	place := func(k int) int { return (2*n - 1 - k + by) % n }
	return changed(d, func(e *impl.Drawing) {
		for k, p := range d.Points {
			e.Points[place(k)] = p
		}
		for f := range e.Faces {
			ring := d.Faces[f].Ring
			for k := range ring {
				e.Faces[f].Ring[k] = int64(place(int(ring[(k+by)%len(ring)])))
			}
		}
	})
}

// mesh divides a panel of columns * rows cells with a size into faces, of which the first ones are halves of cells as long as there may be more faces. The points within the panel are moved a bit, each one in another direction.
func mesh(columns, rows, size int) impl.Drawing {
	d := impl.Drawing{Width: int64(columns * size), Height: int64(rows * size)}
	for y := range rows + 1 {
		for x := range columns + 1 {
			p := pt(int64(x*size), int64(y*size))
			if 0 < x && x < columns {
				p.X += int64((x*7+y*5)%5-2) * int64(size/10)
			}
			if 0 < y && y < rows {
				p.Y += int64((x*3+y*11)%5-2) * int64(size/10)
			}
			d.Points = append(d.Points, p)
		}
	}
	cells := columns * rows
	for cell := range cells {
		k := int64(cell/columns*(columns+1) + cell%columns)
		up := k + int64(columns) + 1
		rings := [][]int64{{k, k + 1, up + 1, up}}
		if left := cells - cell; len(d.Faces)+left < impl.MaxFaces {
			rings = [][]int64{{up + 1, up, k}, {k + 1, up + 1, k}}
		}
		for _, ring := range rings {
			d.Faces = append(d.Faces, impl.Face{Name: letter(len(d.Faces)), Ring: ring})
		}
	}
	return d
}

// fullMesh covers its panel and has as many points and faces as there may be, with straight points in some of the lowest faces.
func fullMesh() impl.Drawing {
	d := mesh(12, 2, 100)
	for k := range impl.MaxPoints - len(d.Points) {
		ring := d.Faces[k].Ring
		middle := pt((d.Points[ring[0]].X+d.Points[ring[1]].X)/2, 0)
		d.Faces[k].Ring = slices.Insert(ring, 1, int64(len(d.Points)))
		d.Points = append(d.Points, middle)
	}
	return d
}

// coverTexts are drawings whose faces cover their panels.
var coverTexts = []string{
	"20x10;0,0 20,0 20,10 0,10;a 0,1,2;b 0,2,3", "10x10;0,0 10,0 10,10 0,10;a 0,1,2,3", "10x11;3,11 10,0 0,11 10,11 0,0;z9 1,3,0,2,4", "20x10;0,0 20,0 20,10 0,10 5,5;a 0,1,2;b 2,3,0",
	// Around a point, a pin wheel, bricks, and concave faces that fill each other's notch.
	"20x10;0,0 20,0 20,10 0,10 5,5;a 0,1,4;b 1,2,4;c 4,2,3;d 0,4,3", "30x30;0,0 20,0 20,10 0,10 30,0 30,20 20,20 30,30 10,30 10,20 0,30 10,10;a 0,1,2,3;b 1,4,5,6;c 9,5,7,8;d 3,11,8,10;e 11,2,6,9",
	"40x30;0,0 20,0 20,10 0,10 40,0 40,10 10,10 10,20 0,20 30,10 30,20 40,20 20,20 20,30 0,30 40,30;a 0,1,2,3;b 1,4,5,2;c 3,6,7,8;d 6,9,10,7;e 9,5,11,10;f 8,12,13,14;g 12,11,15,13",
	"30x30;30,30 0,0 30,0 0,30 10,10 20,10 20,30 10,30;gate 1,2,0,6,5,4,7,3;plug 6,7,4,5", "40x40;0,0 40,0 40,10 10,10 10,40 0,40 40,40;block 3,2,6,4;hook 0,1,2,3,4,5",
	"20x20;0,0 20,0 20,20 10,10 0,20;a 0,1,2,3,4;b 4,3,2", "50x50;0,0 50,0 50,50 0,50 10,50 10,20 30,20 30,30 20,30 20,40 40,40 40,10 0,10;inner 12,11,10,9,8,7,6,5,4,3;spiral 0,1,2,4,5,6,7,8,9,10,11,12",
	// The limits of the coordinates, with a face that has no inner point with integer coordinates.
	"20000x20000;0,0 20000,0 20000,20000 0,20000;a 3,0,1,2", "20000x20000;0,0 20000,0 20000,20000 0,20000 20000,19999;a 0,1,4;b 0,4,2;c 0,2,3", "20000x10;0,0 20000,0 20000,10 0,10 7,0 20000,5 7,10 0,5;floor 0,4,1,5,2,6,3,7",
	"10x20000;0,0 10,0 10,20000 0,20000 0,19999 1,20000 1,0;a 0,6,5,4;b 4,5,3;c 6,1,2,5",
}

// covers are drawings whose faces cover their panels.
func covers() []impl.Drawing {
	var all []impl.Drawing
	for k, text := range coverTexts {
		all = append(all, draw(text), renumbered(draw(text), k))
	}
	for _, size := range [][2]int{{1, 1}, {2, 1}, {3, 2}, {3, 4}, {5, 4}, {4, 6}} {
		all = append(all, mesh(size[0], size[1], 20), renumbered(mesh(size[0], size[1], 30), 3))
	}
	return append(all, mesh(4, 5, 4000), fullMesh(), renumbered(fullMesh(), 5))
}

// looseTexts are valid drawings whose faces do not cover their panels.
var looseTexts = []string{
	// Without faces, and without points.
	"10x10;", "20000x20000;", "10x20000;", "20000x10;", "10x10;0,0", "10x10;10,10", "10x10;0,0 10,0 10,10 0,10", "12x34;5,6 7,8 0,34 12,0", "20000x20000;0,0 20000,0 20000,20000 0,20000 1,19999",
	// An area is missing, faces overlap, or both, with areas that add up to that of the panel and without.
	"20x10;0,0 20,0 20,10 0,10;a 0,1,2", "20x10;0,0 20,0 20,10 0,10 20,9;a 0,1,4;b 0,2,3", "21x10;0,0 20,0 20,10 0,10;a 0,1,2;b 0,2,3", "20x11;0,0 20,0 20,10 0,10;a 0,1,2;b 0,2,3",
	"20x10;0,0 20,0 20,10 0,10 5,5;a 0,1,2,3;b 0,1,2", "20x10;0,0 20,0 20,10 0,10;a 0,1,2;b 1,2,0", "20x10;0,0 20,0 20,10 0,10;a 0,1,2;b 1,2,3", "20x10;0,0 20,0 20,10 0,10;a 0,1,2,3;b 0,1,2,3",
	"20x20;0,0 10,0 10,20 0,20 5,0 15,0 15,20 5,20;a 0,1,2,3;b 4,5,6,7", "30x10;0,0 20,0 20,10 0,10 10,0 15,0 15,10 10,10 25,10 25,0;a 0,1,2,3;b 4,5,6,7;c 5,9,8,6",
	// Faces that meet at a point only, and along a part of an edge only.
	"20x20;0,0 10,0 10,10 0,10 20,10 20,20 10,20;a 0,1,2,3;b 2,4,5,6", "20x20;0,0 10,0 10,10 0,10 10,5 20,5 20,15 10,15;a 0,1,2,3;b 4,5,6,7", "20x20;0,0 10,0 10,10 0,10 20,5 20,15;a 0,1,2,3;b 2,4,5", "20x20;0,0 10,0 10,10 0,10 10,5 20,5 20,15;a 0,1,2,3;b 4,5,6",
	// Names in the order of their bytes.
	"10x10;0,0 10,0 10,10;a 0,1,2;a0 1,2,0;a10 2,0,1;a2 0,1,2;aa 0,1,2;aaaaaaaaaa 0,1,2;b 0,1,2;b9 0,1,2;z 0,1,2;z99999999z 0,1,2",
	// Points that no face has, at all places in their order.
	"20x20;1,1 0,0 2,2 10,0 3,3 0,10 4,4;a 1,3,5", "20x20;0,0 10,0 0,10 4,4 4,5;a 0,1,2", "20x20;4,4 4,5 0,0 10,0 0,10;a 3,4,2",
}

// goodDrawings are valid drawings.
func goodDrawings() []impl.Drawing {
	all := covers()
	for k, text := range looseTexts {
		d := draw(text)
		if all = append(all, d); len(d.Points) > 0 {
			all = append(all, renumbered(d, k))
		}
	}
	for k, p := range goodPolygons() {
		all = append(all, renumbered(drawingOf(p), k), drawingOf(p, startAt(p, k)))
	}
	return append(all, crowd(impl.MaxFaces), dots(impl.MaxPoints))
}

// crowd has n faces, all with one polygon, on the greatest panel.
func crowd(n int) impl.Drawing {
	d := draw("20000x20000;0,0 20000,0 20000,20000 0,20000")
	for k := range n {
		d.Faces = append(d.Faces, impl.Face{Name: letter(k), Ring: []int64{int64(k % 4), int64((k + 1) % 4), int64((k + 2) % 4), int64((k + 3) % 4)}})
	}
	return d
}

// dots has n points and no faces.
func dots(n int) impl.Drawing {
	d := draw("100x10;")
	for k := range n {
		d.Points = append(d.Points, pt(int64(k*2), int64(k%11)))
	}
	return d
}

func TestLimitsOfDrawings(t *testing.T) {
	if limits := []int64{impl.MaxPoints, impl.MaxFaces, impl.MinPanel}; !slices.Equal(limits, []int64{48, 24, 10}) {
		t.Errorf("limits %v", limits)
	}
	if full := fullMesh(); len(full.Points) != 48 || len(full.Faces) != 24 {
		t.Errorf("%d points and %d faces", len(full.Points), len(full.Faces))
	}
}

func TestValidDrawing(t *testing.T) {
	for _, d := range goodDrawings() {
		if !impl.ValidDrawing(d) || !drawingAsTold(d) {
			t.Errorf("%v is valid", d)
		}
	}
	forBadDrawings(func(reason string, d impl.Drawing) {
		if impl.ValidDrawing(d) || drawingAsTold(d) {
			t.Errorf("%.500v is valid: %s", fmt.Sprint(d), reason)
		}
	})
}

// drawingAsTold follows the words of the document, with computations of the tests' own.
func drawingAsTold(d impl.Drawing) bool {
	if d.Width < 10 || d.Width > 20000 || d.Height < 10 || d.Height > 20000 || len(d.Points) > 48 || len(d.Faces) > 24 {
		return false
	}
	for k, p := range d.Points {
		if p.X < 0 || p.X > d.Width || p.Y < 0 || p.Y > d.Height || slices.Contains(d.Points[:k], p) {
			return false
		}
	}
	for f, face := range d.Faces {
		if !looksLikeAName(face.Name) || f > 0 && d.Faces[f-1].Name >= face.Name {
			return false
		}
		for _, k := range face.Ring {
			if k < 0 || int64(len(d.Points)) <= k {
				return false
			}
		}
		if !validAsTold(polygonOf(d, f)) {
			return false
		}
	}
	return true
}

func looksLikeAName(s string) bool {
	rest := strings.TrimLeft(s, "abcdefghijklmnopqrstuvwxyz")
	return len(s) <= 10 && len(rest) < len(s) && strings.Trim(rest, "abcdefghijklmnopqrstuvwxyz0123456789") == ""
}

// forBadDrawings calls check with drawings that are not valid for one reason each.
func forBadDrawings(check func(reason string, d impl.Drawing)) {
	forBadPanels(check)
	forBadPoints(check)
	forBadNames(check)
	forBadRings(check)
}

func forBadPanels(check func(reason string, d impl.Drawing)) {
	for _, text := range []string{"10x10;", "10x10;0,0", "10x10;0,0 10,0 10,10 0,10;a 0,1,2;b 0,2,3"} {
		for _, n := range []int64{impl.MinPanel - 1, 0, -1, -impl.MinPanel, -most, most + 1, -1 << 32, 1<<32 + 10, math.MinInt64, math.MinInt64 + 10, math.MaxInt64} {
			d := draw(text)
			check("Width", changed(d, func(d *impl.Drawing) { d.Width = n }))
			check("Height", changed(d, func(d *impl.Drawing) { d.Height = n }))
			check("Width and Height", changed(d, func(d *impl.Drawing) { d.Width, d.Height = n, n }))
		}
	}
	check("the zero Drawing", impl.Drawing{})
	check("Width and Height", impl.Drawing{Points: []impl.Point{}, Faces: []impl.Face{}})
}

func forBadPoints(check func(reason string, d impl.Drawing)) {
	check("one point too many", dots(impl.MaxPoints+1))
	check("one point too many", changed(fullMesh(), func(d *impl.Drawing) { d.Points = append(d.Points, pt(1, 1)) }))
	check("very many points", changed(fullMesh(), func(d *impl.Drawing) { d.Points = append(d.Points, make([]impl.Point, 100000)...) }))
	for _, text := range []string{
		"10x10;0,0 0,0", "10x10;5,5 1,1 5,5", "10x10;1,1 5,5 5,5 2,2", "20x10;0,0 20,0 20,10 0,10 20,0;a 0,1,2;b 0,2,3", "20x10;0,0 20,0 20,10 0,10 0,0;a 0,1,2;b 4,2,3", "20x10;0,0 20,0 20,10 0,10 4,4 5,5 4,4;a 0,1,2;b 0,2,3",
	} {
		check("two equal points", draw(text))
	}
	check("two equal points", changed(dots(impl.MaxPoints), func(d *impl.Drawing) { d.Points[0] = d.Points[47] }))
	for _, text := range []string{"10x10;0,0 10,0 10,10;a 0,1,2", "20x10;0,0 20,0 20,10;a 0,1,2", "10x20;0,0 10,0 10,20;a 0,1,2", "20000x20000;0,0 20000,0 20000,20000;a 0,1,2", "20x10;", "20000x10;", "10x20000;", "20000x20000;"} {
		d := draw(text)
		for _, p := range append(badPoints(), pt(d.Width+1, 3), pt(3, d.Height+1), pt(d.Width+1, d.Height), pt(d.Width, d.Height+1)) {
			check("a point beyond the panel", changed(d, func(d *impl.Drawing) { d.Points = append(d.Points, p) }))
			check("a point beyond the panel", changed(d, func(d *impl.Drawing) { d.Points = append(d.Points, p, pt(1, 1)) }))
		}
	}
	check("a corner beyond the panel", draw("10x10;0,0 11,0 0,10;a 0,1,2"))
	check("a corner beyond the panel", draw("10x10;0,0 10,0 0,11;a 0,1,2"))
	check("the sides are exchanged", draw("10x20;0,0 20,0 20,10;a 0,1,2"))
}

func forBadNames(check func(reason string, d impl.Drawing)) {
	check("one face too many", crowd(impl.MaxFaces+1))
	check("one face too many", changed(fullMesh(), func(d *impl.Drawing) {
		d.Faces = append(d.Faces, impl.Face{Name: "z", Ring: []int64{0, 1, 13}})
	}))
	check("very many faces", impl.Drawing{Width: 10, Height: 10, Faces: make([]impl.Face, 100000)})
	for _, names := range []string{"a a a", "a a b", "a b b", "b a c", "a c b", "c b a", "a2 a10 b", "b aa c", "a0 a b", "abc ab b", "z a b"} {
		words := strings.Fields(names)
		check("names that are equal or in descending order", changed(crowd(3), func(d *impl.Drawing) {
			for k := range d.Faces {
				d.Faces[k].Name = words[k]
			}
		}))
	}
	for _, name := range []string{"", "A", "B", "7", "7a", "bA", "b-c", "b c", " b", "b ", "b_", "b;", "b,", "b\x00", "b\n", "b{", "{", "bcdefghijkl", "b1234567890", "\xff", "b\xc3\xa4", strings.Repeat("b", 256)} {
		for k := range 3 {
			check("no name", changed(crowd(3), func(d *impl.Drawing) { d.Faces[0].Name, d.Faces[2].Name, d.Faces[k].Name = "a", "c", name }))
		}
		check("no name", changed(crowd(1), func(d *impl.Drawing) { d.Faces[0].Name = name }))
	}
}

func forBadRings(check func(reason string, d impl.Drawing)) {
	for k := range 3 {
		for place := range 4 {
			for _, n := range []int64{-1, -4, 4, 5, 48, 1 << 32, -1 << 32, 1<<32 + 1, math.MinInt64, math.MinInt64 + 1, math.MaxInt64} {
				check("no index of a point", changed(crowd(3), func(d *impl.Drawing) { d.Faces[k].Ring[place] = n }))
			}
			for _, other := range []int{1, 2, 3} {
				check("an index twice", changed(crowd(3), func(d *impl.Drawing) { d.Faces[k].Ring[place] = d.Faces[k].Ring[(place+other)%4] }))
			}
			check("an index more than once", changed(crowd(3), func(d *impl.Drawing) { d.Faces[k].Ring = append(d.Faces[k].Ring, int64(place)) }))
		}
		for _, ring := range [][]int64{nil, {}, {0}, {0, 1}, {3, 1}, {0, 2, 1}, {0, 3, 2, 1}, {0, 1, 3, 2}, {0, 0, 0}, {0, 0, 0, 0}, {-1}, {4, 4}} {
			check("not 3 points to the left around", changed(crowd(3), func(d *impl.Drawing) { d.Faces[k].Ring = ring }))
		}
	}
	check("no points for the Rings", changed(crowd(1), func(d *impl.Drawing) { d.Points = nil }))
	check("one of the points is missing", changed(crowd(1), func(d *impl.Drawing) { d.Points = d.Points[:3] }))
	forBadPolygons(func(reason string, p []impl.Point) {
		d := drawingOf(p)
		d.Width, d.Height = min(d.Width, most), min(d.Height, most)
		check(reason, d)
		check(reason, drawingOf(poly("0,0 10,0 10,10"), p))
		check(reason, drawingOf(p, poly("0,0 10,0 10,10")))
	})
}

// TestOneFarNumber puts far numbers into all places of good drawings, and one after the other of near ones.
func TestOneFarNumber(t *testing.T) {
	for _, text := range append(coverTexts, looseTexts...) {
		d := draw(text)
		for _, place := range numbersOf(&d) {
			kept := *place
			for _, n := range append(farCoordinates, kept-1, kept+1, 2, 3, 4, 5, 9, 10, 11, 20, 30, 48) {
				*place = n
				if got, want := impl.ValidDrawing(d), drawingAsTold(d); got != want {
					t.Errorf("ValidDrawing(%v) is %v", d, got)
				}
			}
			*place = kept
		}
	}
}

// numbersOf returns the places of all numbers of a drawing.
func numbersOf(d *impl.Drawing) []*int64 {
	places := []*int64{&d.Width, &d.Height}
	for k := range d.Points {
		places = append(places, &d.Points[k].X, &d.Points[k].Y)
	}
	for f := range d.Faces {
		for k := range d.Faces[f].Ring {
			places = append(places, &d.Faces[f].Ring[k])
		}
	}
	return places
}

// TestAllRingsOfFourPoints tries all Rings with up to five of the indices of four points, and with indices beside them.
func TestAllRingsOfFourPoints(t *testing.T) {
	valid := 0
	for n := range 6 {
		indices := make([]int64, n)
		for count := range int(math.Pow(6, float64(n))) {
			for k := range indices {
				indices[k] = int64(count%6) - 1
				count /= 6
			}
			d := draw("10x10;0,0 10,0 10,10 0,10")
			d.Faces = []impl.Face{{Name: "a", Ring: indices}}
			got := impl.ValidDrawing(d)
			if got != drawingAsTold(d) {
				t.Errorf("ValidDrawing(%v) is %v", d, got)
			}
			if got {
				valid++
			}
		}
	}
	// Four triangles with three starts each, and the square with four.
	if valid != 4*3+4 {
		t.Errorf("%d Rings are valid", valid)
	}
}
