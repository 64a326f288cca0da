package tests

import (
	"fmt"
	"math"
	"slices"
	"strings"
	"testing"

	"loop.example/g00956/impl"
)

func checkSame(t *testing.T, a, b impl.Drawing, want bool) {
	t.Helper()
	if first, second := impl.SameDrawing(a, b), impl.SameDrawing(b, a); first != want || second != want {
		t.Errorf("SameDrawing(%.300v, %.300v) is %v and in the other order %v", fmt.Sprint(a), fmt.Sprint(b), first, second)
	}
}

func TestSameDrawing(t *testing.T) {
	var all []impl.Drawing
	for _, text := range append(coverTexts, looseTexts...) {
		all = append(all, draw(text))
	}
	for i, d := range all {
		for k, other := range all {
			checkSame(t, d, copyOf(other), i == k)
		}
	}
	for _, d := range goodDrawings() {
		checkSame(t, d, copyOf(d), true)
	}
	forBadDrawings(func(_ string, d impl.Drawing) {
		checkSame(t, d, copyOf(d), true)
		checkSame(t, d, draw(coverTexts[0]), false)
	})
}

// TestSameDrawingNeedsAll makes one change after the other, also to drawings that are not valid.
func TestSameDrawingNeedsAll(t *testing.T) {
	for _, text := range []string{"20x10;0,0 20,0 20,10 0,10;a 0,1,2;b 0,2,3", "1x2;3,4 5,6 7,8 9,10;Z 5,6,7;A 8,9,-1", "0x-1;0,0 1,0 2,0 3,0; 0,0,7; 9,8,6"} {
		d := draw(text)
		for reason, change := range map[string]func(d *impl.Drawing){
			"Width": func(d *impl.Drawing) { d.Width++ }, "Height": func(d *impl.Drawing) { d.Height-- }, "both": func(d *impl.Drawing) { d.Width, d.Height = d.Height, d.Width },
			"first X": func(d *impl.Drawing) { d.Points[0].X++ }, "last X": func(d *impl.Drawing) { d.Points[3].X-- }, "first Y": func(d *impl.Drawing) { d.Points[0].Y-- }, "last Y": func(d *impl.Drawing) { d.Points[3].Y++ },
			"order of points": func(d *impl.Drawing) { slices.Reverse(d.Points) }, "order of two points": func(d *impl.Drawing) { d.Points[1], d.Points[2] = d.Points[2], d.Points[1] },
			"one point less": func(d *impl.Drawing) { d.Points = d.Points[:3] }, "one point more": func(d *impl.Drawing) { d.Points = append(d.Points, pt(0, 0)) }, "no points": func(d *impl.Drawing) { d.Points = nil },
			"first name": func(d *impl.Drawing) { d.Faces[0].Name += "a" }, "last name": func(d *impl.Drawing) { d.Faces[1].Name = "c" }, "large letters": func(d *impl.Drawing) { d.Faces[1].Name += "A" }, "no name": func(d *impl.Drawing) { d.Faces[0].Name += "\x00" },
			"first index": func(d *impl.Drawing) { d.Faces[0].Ring[0]++ }, "last index": func(d *impl.Drawing) { d.Faces[1].Ring[2] -= 4 }, "middle index": func(d *impl.Drawing) { d.Faces[1].Ring[1] = math.MinInt64 },
			"beginning of a Ring":     func(d *impl.Drawing) { d.Faces[0].Ring = append(d.Faces[0].Ring[1:], d.Faces[0].Ring[0]) },
			"beginning of a last one": func(d *impl.Drawing) { d.Faces[1].Ring = append(d.Faces[1].Ring[2:], d.Faces[1].Ring[:2]...) },
			"one index less":          func(d *impl.Drawing) { d.Faces[1].Ring = d.Faces[1].Ring[:2] }, "one index more": func(d *impl.Drawing) { d.Faces[0].Ring = append(d.Faces[0].Ring, 0) }, "no Ring": func(d *impl.Drawing) { d.Faces[1].Ring = nil },
			"order of faces": func(d *impl.Drawing) { slices.Reverse(d.Faces); d.Faces[0].Name += "x" }, "one face less": func(d *impl.Drawing) { d.Faces = d.Faces[:1] }, "no first face": func(d *impl.Drawing) { d.Faces = d.Faces[1:] },
			"one face more": func(d *impl.Drawing) { d.Faces = append(d.Faces, impl.Face{}) }, "no faces": func(d *impl.Drawing) { d.Faces = nil },
			"Rings exchanged": func(d *impl.Drawing) { d.Faces[0].Ring, d.Faces[1].Ring = d.Faces[1].Ring, d.Faces[0].Ring },
		} {
			other := changed(d, change)
			checkSame(t, d, other, false)
			if t.Failed() {
				t.Fatalf("%s of %s", reason, text)
			}
			checkSame(t, other, copyOf(other), true)
		}
	}
}

func TestSameDrawingTakesNilAsEmpty(t *testing.T) {
	none := impl.Drawing{Width: 10, Height: 10}
	checkSame(t, none, impl.Drawing{Width: 10, Height: 10, Points: []impl.Point{}, Faces: []impl.Face{}}, true)
	checkSame(t, none, impl.Drawing{Width: 10, Height: 10, Points: make([]impl.Point, 0, 9)}, true)
	checkSame(t, impl.Drawing{}, impl.Drawing{Faces: []impl.Face{}}, true)
	without := func(ring []int64) impl.Drawing { return impl.Drawing{Faces: []impl.Face{{Name: "a", Ring: ring}}} }
	checkSame(t, without(nil), without([]int64{}), true)
	checkSame(t, without(nil), without([]int64{0}), false)
	checkSame(t, without(nil), impl.Drawing{}, false)
	checkSame(t, none, impl.Drawing{Width: 10, Height: 10, Points: make([]impl.Point, 1)}, false)
}

// noIndices returns numbers that are no index of a list with n elements.
func noIndices(n int) []int64 {
	return []int64{-1, -2, -int64(n) - 1, int64(n), int64(n) + 1, 1000, -1 << 32, 1 << 32, math.MinInt64, math.MinInt64 + 1, math.MaxInt64 - 1, math.MaxInt64}
}

func TestFacePolygon(t *testing.T) {
	for _, d := range goodDrawings() {
		for k := range d.Faces {
			if got, code := impl.FacePolygon(d, int64(k)); !slices.Equal(got, polygonOf(d, k)) || code != impl.OK {
				t.Errorf("FacePolygon(%v, %d) is %v, %d", d, k, got, code)
			}
		}
		for _, k := range noIndices(len(d.Faces)) {
			if got, code := impl.FacePolygon(d, k); len(got) != 0 || code != impl.ErrRange {
				t.Errorf("FacePolygon(%v, %d) is %v, %d", d, k, got, code)
			}
		}
	}
	if got, _ := impl.FacePolygon(draw("10x11;3,11 10,0 0,11 10,11 0,0;z9 1,3,0,2,4"), 0); !slices.Equal(got, poly("10,0 10,11 3,11 0,11 0,0")) {
		t.Errorf("the polygon is %v", got)
	}
}

func TestFaceNamed(t *testing.T) {
	for _, d := range goodDrawings() {
		for k, face := range d.Faces {
			if got, code := impl.FaceNamed(d, face.Name); got != int64(k) || code != impl.OK {
				t.Errorf("FaceNamed(%v, %s) is %d, %d", d, face.Name, got, code)
			}
			for _, name := range []string{strings.ToUpper(face.Name), face.Name + " ", " " + face.Name, face.Name + "\x00", face.Name + "y", face.Name[1:] + "-"} {
				checkNotNamed(t, d, name)
			}
		}
		for _, name := range append(oddTexts(), "c7", "zz", "aaaaaaaaaaa", "A", "0") {
			if name != "a" {
				checkNotNamed(t, d, name)
			}
		}
	}
	checkNotNamed(t, draw("10x10;0,0 10,0 10,10;a 0,1,2;c 0,1,2"), "b")
	checkNotNamed(t, draw("10x10;0,0 10,0 10,10;b 0,1,2"), "a")
	checkNotNamed(t, draw("10x10;"), "a")
	checkNotNamed(t, draw("10x10;"), "")
}

func checkNotNamed(t *testing.T, d impl.Drawing, name string) {
	t.Helper()
	if got, code := impl.FaceNamed(d, name); got != 0 || code != impl.ErrNotFound {
		t.Errorf("FaceNamed(%v, %.200q) is %d, %d", d, name, got, code)
	}
}

func TestFaceAt(t *testing.T) {
	for _, c := range []struct {
		text   string
		places map[int64]string
	}{
		// The diagonal belongs to the first face, and the border of the panel to its faces.
		{"20x10;0,0 20,0 20,10 0,10;a 0,1,2;b 0,2,3", map[int64]string{0: "15,2 19,9 10,5 0,0 20,10 2,1 20,0 20,5 7,0", 1: "5,8 1,1 0,10 0,5 13,10 1,9", -1: "21,5 30,5 10,11 0,11 20,11 20000,20000 20000,0 0,20000"}},
		{"20x10;0,0 20,0 20,10 0,10;a 0,2,3;b 0,1,2", map[int64]string{0: "5,8 10,5 0,0 20,10 0,10", 1: "15,2 20,0 7,0 20,9"}},
		{"20x10;0,0 20,0 20,10 0,10 5,5;a 0,1,4;b 1,2,4;c 4,2,3;d 0,4,3", map[int64]string{0: "5,5 0,0 20,0 2,2 5,1 10,0 15,1", 1: "20,10 6,5 20,5 19,2", 2: "0,10 4,6 10,10 5,9", 3: "4,5 0,1 0,9 1,5"}},
		// Over each other, one inside of the other, apart and at a corner only.
		{"20x10;0,0 20,0 20,10 0,10 5,5;a 0,1,2,3;b 0,1,2", map[int64]string{0: "15,2 5,8 20,10 5,5", -1: "21,10 20,11"}}, {"30x30;0,0 30,0 30,30 0,30 10,10 20,10 20,20;a 4,5,6;b 0,1,2,3", map[int64]string{0: "10,10 15,10 17,12 15,15 20,20", 1: "9,9 14,15 21,20 0,0 30,30", -1: "31,31"}},
		{"40x20;0,0 10,0 10,10 30,10 40,10 40,20 0,20 20,20;a 0,1,2;b 3,4,5;c 2,7,6", map[int64]string{0: "10,10 5,5 0,0 9,1", 1: "30,10 35,12 40,20", 2: "11,11 20,20 10,15 0,20 5,15 5,16", -1: "11,10 29,10 5,11 15,5 0,1 40,0 33,20 20,0 21,20"}},
		// No points, no faces, and the limits of the coordinates.
		{"10x10;", map[int64]string{-1: "0,0 5,5 10,10 20000,20000"}}, {"10x10;0,0 10,0 10,10", map[int64]string{-1: "0,0 9,5 10,10"}}, {"20000x20000;0,0 20000,0 20000,20000 0,20000;a 0,1,2,3", map[int64]string{0: "0,0 20000,0 20000,20000 0,20000 1,1 19999,19999 10000,0 7,20000"}},
		{"20000x20000;0,0 20000,0 20000,20000 0,20000 20000,19999;a 0,1,4;b 0,4,2;c 0,2,3", map[int64]string{0: "0,0 20000,19999 19999,19998 1,0 20000,0", 1: "20000,20000 10000,10000 19999,19999 1,1", 2: "0,20000 19998,19999 1,2 19999,20000"}},
	} {
		for want, points := range c.places {
			for _, p := range poly(points) {
				checkFaceAt(t, draw(c.text), p, want)
			}
		}
	}
}

// checkFaceAt takes -1 for no face.
func checkFaceAt(t *testing.T, d impl.Drawing, p impl.Point, want int64) {
	t.Helper()
	wantCode := int64(impl.OK)
	if want < 0 {
		want, wantCode = 0, impl.ErrNotFound
	}
	if got, code := impl.FaceAt(d, p); got != want || code != wantCode {
		t.Fatalf("FaceAt(%v, %v) is %d, %d, want %d, %d", d, p, got, code, want, wantCode)
	}
}

// faceAtAsTold is for small panels.
func faceAtAsTold(d impl.Drawing, p impl.Point) int64 {
	for k := range d.Faces {
		if placeAsTold(polygonOf(d, k), p) >= 0 {
			return int64(k)
		}
	}
	return -1
}

func TestAllFacesAtPoints(t *testing.T) {
	for _, d := range goodDrawings() {
		if d.Width > 60 || d.Height > 60 {
			continue
		}
		for x := range d.Width + 2 {
			for y := range d.Height + 2 {
				checkFaceAt(t, d, pt(x, y), faceAtAsTold(d, pt(x, y)))
			}
		}
	}
}

func TestFaceAtRefusesPoints(t *testing.T) {
	for _, d := range goodDrawings() {
		for _, p := range badPoints() {
			if got, code := impl.FaceAt(d, p); got != 0 || code != impl.ErrInvalid {
				t.Fatalf("FaceAt(%v, %v) is %d, %d", d, p, got, code)
			}
		}
	}
}

func TestUnusedPoints(t *testing.T) {
	for _, c := range []struct {
		text string
		want []int64
	}{
		{"20x10;0,0 20,0 20,10 0,10;a 0,1,2;b 0,2,3", nil}, {"20x10;0,0 20,0 20,10 0,10;a 0,1,2", []int64{3}}, {"20x10;0,0 20,0 20,10 0,10;a 1,2,3", []int64{0}}, {"20x10;0,0 20,0 20,10 0,10 5,5;a 0,1,2,3;b 0,1,2", []int64{4}},
		{"20x20;1,1 0,0 2,2 10,0 3,3 0,10 4,4;a 1,3,5", []int64{0, 2, 4, 6}}, {"10x10;", nil}, {"10x10;0,0 10,0 10,10", []int64{0, 1, 2}}, {"10x10;5,5", []int64{0}},
		// A point of no Ring may lie on an edge, and one of a Ring on none.
		{"20x10;0,0 20,0 20,10 0,10 10,0 10,5;a 0,1,2,3", []int64{4, 5}},
	} {
		if got, code := impl.UnusedPoints(draw(c.text)); !slices.Equal(got, c.want) || code != impl.OK {
			t.Errorf("UnusedPoints(%s) is %v, %d, want %v", c.text, got, code, c.want)
		}
	}
	for _, d := range goodDrawings() {
		var want []int64
		for k := range d.Points {
			if !slices.ContainsFunc(d.Faces, func(face impl.Face) bool { return slices.Contains(face.Ring, int64(k)) }) {
				want = append(want, int64(k))
			}
		}
		if got, code := impl.UnusedPoints(d); !slices.Equal(got, want) || code != impl.OK {
			t.Errorf("UnusedPoints(%v) is %v, %d, want %v", d, got, code, want)
		}
	}
	if got, _ := impl.UnusedPoints(dots(impl.MaxPoints)); len(got) != impl.MaxPoints {
		t.Errorf("%d of %d points are in no Ring", len(got), impl.MaxPoints)
	}
}

// TestDrawingsAreRefused calls with indices, names and points that a valid drawing may have, and with others.
func TestDrawingsAreRefused(t *testing.T) {
	points := []impl.Point{pt(0, 0), pt(5, 5), pt(20000, 20000), pt(-1, 0), pt(0, math.MinInt64), pt(math.MaxInt64, 20001)}
	forBadDrawings(func(reason string, d impl.Drawing) {
		for n, k := range []int64{0, 1, 2, 3, -1, 24, 48, math.MinInt64, math.MaxInt64} {
			name, p := []string{"a", "b", "", "A", "zz"}[n%5], points[n%len(points)]
			polygon, polygonCode := impl.FacePolygon(d, k)
			named, namedCode := impl.FaceNamed(d, name)
			edges, edgesCode := impl.EdgesOf(d)
			both, bothCode := impl.FacesOfEdge(d, k, 1)
			other, otherCode := impl.FacesOfEdge(d, 0, k)
			near, nearCode := impl.NeighboursOf(d, k)
			overlaps, overlapsCode := impl.OverlapsOf(d)
			area, areaCode := impl.UncoveredArea(d)
			face, faceCode := impl.FaceAt(d, p)
			unused, unusedCode := impl.UnusedPoints(d)
			for what, code := range map[string]int64{"FacePolygon": polygonCode, "FaceNamed": namedCode, "EdgesOf": edgesCode, "FacesOfEdge": bothCode, "FacesOfEdge again": otherCode,
				"NeighboursOf": nearCode, "OverlapsOf": overlapsCode, "UncoveredArea": areaCode, "FaceAt": faceCode, "UnusedPoints": unusedCode} {
				if code != impl.ErrInvalid {
					t.Errorf("%s(%.300v) with %d, %q and %v returns the code %d: %s", what, fmt.Sprint(d), k, name, p, code, reason)
				}
			}
			if len(polygon)+len(edges)+len(both)+len(other)+len(near)+len(overlaps)+len(unused) > 0 || named != 0 || area != 0 || face != 0 {
				t.Errorf("%.300v has results: %s", fmt.Sprint(d), reason)
			}
		}
		if impl.CoversPanel(d) || impl.DrawingText(d) != "" {
			t.Errorf("%.300v covers its panel or has the text %.200q: %s", fmt.Sprint(d), impl.DrawingText(d), reason)
		}
	})
}
