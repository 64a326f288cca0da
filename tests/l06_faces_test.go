package tests

import (
	"fmt"
	"math"
	"slices"
	"testing"

	"loop.example/g00956/impl"
)

func TestSliversOf(t *testing.T) {
	const thin = "20000x20000;0,0 20000,1 20000,2;a 0,1,2"
	for _, c := range []struct {
		text  string
		width int64
		want  string
	}{
		{"40x20;0,0 20,0 40,0 40,20 20,20 0,20 20,10;a 0,1,4,5;b 1,2,3,4,6", 40, "[0 1]"}, {"10x10;", 1, "[]"}, {"10x10;0,0 10,0 10,1", 2000, "[]"},
		// Just at the limit: the doubled area is 2400, and the greatest distance, which is no edge, 50.
		{"30x40;0,0 30,0 30,40 0,40;a 0,1,2,3", 47, "[]"}, {"30x40;0,0 30,0 30,40 0,40;a 0,1,2,3", 48, "[]"}, {"30x40;0,0 30,0 30,40 0,40;a 0,1,2,3", 49, "[0]"}, {"30x40;0,0 30,0 30,40 0,40;a 0,1,2;b 1,2,3", 23, "[]"}, {"30x40;0,0 30,0 30,40 0,40;a 0,1,2;b 1,2,3", 24, "[]"}, {"30x40;0,0 30,0 30,40 0,40;a 0,1,2;b 1,2,3", 25, "[0 1]"},
		// The greatest distance is rounded down: 28 of 28.28, whose double would be a limit of 56.
		{"20x20;0,0 20,0 20,20 0,20;a 0,1,2,3", 28, "[]"}, {"20x20;0,0 20,0 20,20 0,20;a 0,1,2,3", 29, "[0]"}, {"10x10;0,0 1,0 1,1 0,1;a 0,1,2,3", 2, "[]"}, {"10x10;0,0 1,0 1,1 0,1;a 0,1,2,3", 3, "[0]"},
		// The least and the greatest widths, and areas.
		{thin, 1, "[]"}, {thin, 2, "[0]"}, {"20000x20000;0,0 20000,19999 20000,20000;a 0,1,2", 1, "[0]"}, {"10x10;0,0 1,0 0,1;a 0,1,2", 1, "[]"}, {"10x10;0,0 1,0 0,1;a 0,1,2", 2, "[0]"}, {"20000x20000;0,0 20000,0 20000,20000 0,20000;a 0,1,2,3", 2000, "[]"},
		{"20000x1000;0,0 20000,0 20000,1000 0,1000;a 0,1,2,3", 1997, "[]"}, {"20000x1000;0,0 20000,0 20000,1000 0,1000;a 0,1,2,3", 1998, "[0]"}, {"20000x1000;0,0 20000,0 20000,1000 0,1000;a 0,1,2,3", 2000, "[0]"},
		// Some of several, concave ones, and points that no Ring has.
		{"40x40;0,0 40,0 40,40 0,40 40,38 38,40;a 0,1,2,3;b 0,4,2;c 0,1,2;d 0,2,5", 2, "[1 3]"}, {"40x40;0,0 40,0 40,40 0,40 40,38 38,40;a 0,1,2,3;b 0,4,2;c 0,1,2;d 0,2,5", 28, "[1 3]"}, {"40x40;0,0 40,0 40,40 0,40 40,38 38,40;a 0,1,2,3;b 0,4,2;c 0,1,2;d 0,2,5", 29, "[1 2 3]"},
		{"40x40;0,0 40,0 40,4 4,4 4,40 0,40;a 0,1,2,3,4,5", 10, "[]"}, {"40x40;0,0 40,0 40,4 4,4 4,40 0,40;a 0,1,2,3,4,5", 11, "[0]"}, {"20000x20000;0,0 9,0 0,9 20000,20000;a 0,1,2", 6, "[]"}, {"20000x20000;0,0 9,0 0,9 20000,20000;a 0,1,2", 7, "[0]"},
	} {
		d := draw(c.text)
		if !impl.ValidDrawing(d) {
			t.Fatalf("%s is not valid", c.text)
		}
		slivers, code := impl.SliversOf(d, c.width)
		checkList(t, fmt.Sprint("SliversOf ", c.text, c.width), slivers, code, c.want)
	}
}

func TestAllSlivers(t *testing.T) {
	for _, d := range append(goodDrawings(), messyDrawings()...) {
		for _, width := range []int64{1, 2, 3, 5, 9, 20, 60, 200, 700, 1999, impl.MaxSliver} {
			slivers, code := impl.SliversOf(d, width)
			checkList(t, fmt.Sprint("SliversOf ", d, width), slivers, code, sliversAsTold(d, width))
		}
		for _, width := range []int64{0, -1, -2000, impl.MaxSliver + 1, 1 << 32, 1<<32 + 5, math.MinInt64, math.MinInt64 + 1, math.MaxInt64} {
			slivers, code := impl.SliversOf(d, width)
			checkNone(t, fmt.Sprint("SliversOf ", d, width), len(slivers), code, impl.ErrRange)
		}
	}
}

func TestJoinFaces(t *testing.T) {
	const row = "30x10;0,0 10,0 20,0 30,0 30,10 20,10 10,10 0,10;a 0,1,6,7;b 1,2,5,6;c 2,3,4,5"
	const rowPoints = "30x10;0,0 10,0 20,0 30,0 30,10 20,10 10,10 0,10;"
	const nook = "20x20;0,0 20,0 20,20 10,10 0,20;a 0,1,2,3,4;b 4,3,2"
	for _, c := range []struct {
		text string
		k, m int64
		want string
	}{
		// In both orders: the Name is that of the first one, and the Ring begins with an edge of it.
		{"20x10;0,0 20,0 20,10 0,10;a 0,1,2;b 0,2,3", 0, 1, "20x10;0,0 20,0 20,10 0,10;a 0,1,2,3"}, {"20x10;0,0 20,0 20,10 0,10;a 0,1,2;b 0,2,3", 1, 0, "20x10;0,0 20,0 20,10 0,10;b 2,3,0,1"},
		{row, 0, 1, rowPoints + "a 0,1,2,5,6,7;c 2,3,4,5"}, {row, 1, 0, rowPoints + "b 1,2,5,6,7,0;c 2,3,4,5"}, {row, 1, 2, rowPoints + "a 0,1,6,7;b 1,2,3,4,5,6"}, {row, 2, 1, rowPoints + "a 0,1,6,7;c 2,3,4,5,6,1"},
		// Faces that do not follow one another: the new one stands at the place of its Name.
		{rowPoints + "a 0,1,6,7;b 2,3,4,5;c 1,2,5,6", 0, 2, rowPoints + "a 0,1,2,5,6,7;b 2,3,4,5"}, {rowPoints + "a 0,1,6,7;b 2,3,4,5;c 1,2,5,6", 2, 0, rowPoints + "b 2,3,4,5;c 1,2,5,6,7,0"},
		// Several edges that follow one another: the points between them stay, although no Ring has them then.
		{nook, 0, 1, "20x20;0,0 20,0 20,20 10,10 0,20;a 0,1,2,4"}, {nook, 1, 0, "20x20;0,0 20,0 20,20 10,10 0,20;b 2,4,0,1"}, {"20x20;9,9 0,0 20,0 20,20 10,10 0,20 8,8;a 1,2,3,4,5;b 5,4,3", 0, 1, "20x20;9,9 0,0 20,0 20,20 10,10 0,20 8,8;a 1,2,3,5"},
		// A part of an edge is not enough, but it is after InsertJunctions. Straight points stay.
		{"40x20;0,0 20,0 40,0 40,20 20,20 0,20 20,10;a 0,1,4,5;b 1,2,3,4,6", 0, 1, ""}, {"40x20;0,0 20,0 40,0 40,20 20,20 0,20 20,10;a 0,1,6,4,5;b 1,2,3,4,6", 0, 1, "40x20;0,0 20,0 40,0 40,20 20,20 0,20 20,10;a 0,1,2,3,4,5"}, {bricks, 2, 3, "40x30;0,0 20,0 20,10 0,10 40,0 40,10 10,10 10,20 0,20 30,10 30,20 40,20 20,20 20,30 0,30 40,30;a 0,1,2,3;b 1,4,5,2;c 3,6,9,10,7,8;e 9,5,11,10;f 8,12,13,14;g 12,11,15,13"},
		// No edge in common, a corner only, edges that do not follow one another, overlaps with and without edges in common.
		{row, 0, 2, ""}, {row, 2, 0, ""}, {"20x20;0,0 10,0 10,10 0,10 20,10 20,20 10,20;a 0,1,2,3;b 2,4,5,6", 0, 1, ""}, {"30x40;0,0 30,0 30,30 20,30 20,10 10,10 10,30 0,30 30,40 0,40;a 0,1,2,3,4,5,6,7;b 7,6,3,2,8,9", 0, 1, ""},
		{"30x40;0,0 30,0 30,30 20,30 20,10 10,10 10,30 0,30 30,40 0,40;a 0,1,2,3,4,5,6,7;b 7,6,3,2,8,9", 1, 0, ""}, {"20x10;0,0 20,0 20,10 0,10;a 0,1,2;b 0,1,2", 0, 1, ""}, {"20x10;0,0 20,0 20,10 0,10;a 0,1,2;b 0,1,2,3", 0, 1, ""}, {"30x30;0,0 20,0 20,20 0,20 10,5 30,5 30,25 10,25;a 0,1,2,3;b 4,5,6,7", 1, 0, ""},
		{"20x30;0,0 10,0 10,10 0,10 20,0 20,20 2,20 2,8 8,8 8,12 10,12;a 0,1,2,3;b 1,4,5,6,7,8,9,10,2", 0, 1, ""},
	} {
		d := draw(c.text)
		if !impl.ValidDrawing(d) {
			t.Fatalf("%s is not valid", c.text)
		}
		got, code := impl.JoinFaces(d, c.k, c.m)
		if c.want == "" {
			checkMade(t, fmt.Sprint("JoinFaces ", c.text, c.k, c.m), got, code, impl.Drawing{}, impl.ErrState)
		} else {
			checkMade(t, fmt.Sprint("JoinFaces ", c.text, c.k, c.m), got, code, draw(c.want), impl.OK)
		}
	}
}

// joinFacesAsTold follows the words of the document, on JoinPolygons of chapter 4.
func joinFacesAsTold(d impl.Drawing, k, m int64) (impl.Drawing, int64) {
	n := int64(len(d.Faces))
	if k < 0 || m < 0 || k >= n || m >= n || k == m {
		return impl.Drawing{}, impl.ErrRange
	}
	joined, code := impl.JoinPolygons(polygonOf(d, int(k)), polygonOf(d, int(m)))
	if code != impl.OK {
		return impl.Drawing{}, impl.ErrState
	}
	e := copyOf(d)
	e.Faces = nil
	for f, face := range d.Faces {
		if int64(f) == k {
			face.Ring = nil
			for _, p := range joined {
				face.Ring = append(face.Ring, int64(slices.Index(d.Points, p)))
			}
		}
		if int64(f) != m {
			e.Faces = append(e.Faces, face)
		}
	}
	return e, impl.OK
}

func TestAllJoinedFaces(t *testing.T) {
	joined := 0
	for seed, d := range append(goodDrawings(), messyDrawings()...) {
		n := int64(len(d.Faces))
		if n > 6 && seed%6 > 0 {
			continue
		}
		for k := range n {
			for m := range n {
				got, code := impl.JoinFaces(d, k, m)
				want, wantCode := joinFacesAsTold(d, k, m)
				checkMade(t, fmt.Sprint("JoinFaces ", d, k, m), got, code, want, wantCode)
				if code == impl.OK {
					joined++
					if before, after := uncovered(t, d), uncovered(t, got); before != after || impl.CoversPanel(d) != impl.CoversPanel(got) {
						t.Fatalf("JoinFaces(%v, %d, %d) uncovers %d and not %d", d, k, m, after, before)
					}
				}
			}
			for _, other := range noIndices(len(d.Faces)) {
				for _, pair := range [][2]int64{{k, other}, {other, k}} {
					got, code := impl.JoinFaces(d, pair[0], pair[1])
					checkMade(t, fmt.Sprint("JoinFaces ", d, pair), got, code, impl.Drawing{}, impl.ErrRange)
				}
			}
		}
		for _, pair := range [][2]int64{{0, n}, {n, 0}, {n, n}, {-1, -1}, {-1, n}, {0, 0}, {n - 1, n - 1}, {math.MinInt64, math.MaxInt64}} {
			got, code := impl.JoinFaces(d, pair[0], pair[1])
			checkMade(t, fmt.Sprint("JoinFaces ", d, pair), got, code, impl.Drawing{}, impl.ErrRange)
		}
	}
	if joined < 800 {
		t.Errorf("only %d pairs of faces are joined", joined)
	}
}

func uncovered(t *testing.T, d impl.Drawing) int64 {
	t.Helper()
	area, code := impl.UncoveredArea(d)
	if code != impl.OK {
		t.Fatalf("UncoveredArea(%v) returns the code %d", d, code)
	}
	return area
}

// TestAllFacesOfAMeshAreJoined joins the first face with one of its neighbours after the other.
func TestAllFacesOfAMeshAreJoined(t *testing.T) {
	for _, size := range [][2]int{{2, 1}, {3, 1}, {2, 2}, {5, 1}, {4, 2}} {
		d := mesh(size[0], size[1], 30)
		points := slices.Clone(d.Points)
		for len(d.Faces) > 1 {
			next, code := impl.Drawing{}, int64(impl.ErrState)
			for m := 1; m < len(d.Faces) && code != impl.OK; m++ {
				next, code = impl.JoinFaces(d, 0, int64(m))
			}
			if code != impl.OK || next.Faces[0].Name != "a" || len(next.Faces) != len(d.Faces)-1 || !slices.Equal(next.Points, points) || !impl.CoversPanel(next) {
				t.Fatalf("of %v, the first face is joined to %v, %d", d, next, code)
			}
			d = next
		}
	}
}
