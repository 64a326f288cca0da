package tests

import (
	"fmt"
	"slices"
	"testing"

	"loop.example/g00956/impl"
)

func checkFaceAreas(t *testing.T, d impl.Drawing, want ...int64) {
	t.Helper()
	areas, code := impl.FaceAreas(d)
	checkIndices(t, fmt.Sprint("FaceAreas of ", d), areas, code, want, impl.OK)
}

func TestFaceAreas(t *testing.T) {
	for _, c := range []struct {
		text string
		want []int64
	}{
		{"40x20;0,0 40,0 40,20 0,20;a 0,1,2,3", []int64{1600}}, {"20x10;0,0 20,0 20,10 0,10;a 0,1,2;b 0,2,3", []int64{200, 200}}, {"10x10;0,0 9,0 0,9;a 0,1,2", []int64{81}}, {"90x60;0,0 90,0 90,30 30,30 30,60 0,60;a 0,1,2,3,4,5", []int64{7200}},
		// In the order of the faces, with overlaps, and without faces.
		{"30x30;0,0 20,0 20,10 0,10 30,0 30,20 20,20 30,30 10,30 10,20 0,30 10,10;a 0,1,2,3;b 1,4,5,6;c 9,5,7,8;d 3,11,8,10;e 11,2,6,9", []int64{400, 400, 400, 400, 200}}, {"20x10;0,0 20,0 20,10 0,10 5,5;a 0,1,2,3;b 0,1,2;c 0,1,4", []int64{400, 200, 100}},
		{"10x10;", nil}, {"20000x20000;0,0 1,1", nil}, {"20000x20000;0,0 20000,0 20000,20000 0,20000;a 3,0,1,2", []int64{800000000}}, {"10x10;0,0 1,0 0,1;a 0,1,2;b 1,2,0", []int64{1, 1}},
	} {
		checkFaceAreas(t, draw(c.text), c.want...)
	}
	for _, d := range goodDrawings() {
		checkFaceAreas(t, d, areasAsTold(d)...)
	}
	checkFaceAreas(t, crowd(impl.MaxFaces), slices.Repeat([]int64{800000000}, 24)...)
}

func TestBoundsOfDrawingsThatAreNotValid(t *testing.T) {
	good := oakLeaves(most, most)
	forBadDrawings(func(reason string, d impl.Drawing) {
		where := fmt.Sprintf(" of %.300v (%s)", fmt.Sprint(d), reason)
		areas, code := impl.FaceAreas(d)
		checkNone(t, "FaceAreas"+where, len(areas), code, impl.ErrInvalid)
		for _, list := range [][]impl.Leaf{good, nil, oakLeaves(10, 10), oakLeaves(9, 10), {{}}} {
			unfit, code := impl.UnfitFaces(d, list)
			checkNone(t, "UnfitFaces"+where, len(unfit), code, impl.ErrInvalid)
			bound, code := impl.LeavesBound(d, list)
			checkNone(t, "LeavesBound"+where, int(bound), code, impl.ErrInvalid)
			if impl.EnoughStock(d, list) {
				t.Errorf("EnoughStock%s is true", where)
			}
		}
	})
}

func TestBoundsOfListsThatAreNotValid(t *testing.T) {
	drawings := []impl.Drawing{draw("10x10;"), draw("10x10;0,0 10,0 10,10;a 0,1,2"), draw("20000x20000;0,0 20000,0 20000,20000;a 0,1,2"), {}}
	forBadLists(func(reason string, list []impl.Leaf) {
		for _, d := range drawings {
			where := fmt.Sprintf(" of %v and %.300v (%s)", d, fmt.Sprint(list[:min(len(list), 20)]), reason)
			unfit, code := impl.UnfitFaces(d, list)
			checkNone(t, "UnfitFaces"+where, len(unfit), code, impl.ErrInvalid)
			bound, code := impl.LeavesBound(d, list)
			checkNone(t, "LeavesBound"+where, int(bound), code, impl.ErrInvalid)
			if impl.EnoughStock(d, list) {
				t.Errorf("EnoughStock%s is true", where)
			}
		}
	})
}

// checkFitInvalid also has polygons that would not fit: there is no other code.
func checkFitInvalid(t *testing.T, p []impl.Point, l impl.Leaf, reason string) {
	t.Helper()
	where := fmt.Sprintf(" of %.300v and %.300v (%s)", fmt.Sprint(p), fmt.Sprint(l), reason)
	turns, code := impl.TurnsThatFit(p, l)
	checkNone(t, "TurnsThatFit"+where, len(turns), code, impl.ErrInvalid)
	offcuts, code := impl.OffcutsOf(l, p)
	checkNone(t, "OffcutsOf"+where, len(offcuts), code, impl.ErrInvalid)
	if impl.FitsLeaf(p, l) {
		t.Errorf("FitsLeaf%s is true", where)
	}
}

func TestFitsThatAreNotValid(t *testing.T) {
	forBadPolygons(func(reason string, p []impl.Point) {
		for _, l := range []impl.Leaf{leafOf(most, most), leafOf(10, 10), leafOf(9, 9), {}} {
			checkFitInvalid(t, p, l, reason)
		}
	})
	forBadLeaves(func(reason string, l impl.Leaf) {
		for _, text := range []string{"0,0 1,0 0,1", "0,0 20000,0 20000,20000 0,20000", "0,0 9,0"} {
			checkFitInvalid(t, poly(text), l, reason)
		}
	})
}

func checkFits(t *testing.T, p []impl.Point, l impl.Leaf, want ...int64) {
	t.Helper()
	turns, code := impl.TurnsThatFit(p, l)
	checkIndices(t, fmt.Sprintf("TurnsThatFit of %v and %v", p, l), turns, code, want, impl.OK)
	if impl.FitsLeaf(p, l) != (len(want) > 0) {
		t.Fatalf("FitsLeaf of %v and %v is not right: it fits by %v", p, l, want)
	}
}

func TestFits(t *testing.T) {
	even, odd, all := []int64{0, 2, 4, 6}, []int64{1, 3, 5, 7}, []int64{0, 1, 2, 3, 4, 5, 6, 7}
	for _, c := range []struct {
		text          string
		width, length int64
		want          []int64
	}{
		// Exactly as wide and as long, and one more of either.
		{"0,0 40,0 40,20 0,20", 40, 20, even}, {"0,0 41,0 41,20 0,20", 40, 20, nil}, {"0,0 40,0 40,21 0,21", 40, 20, nil}, {"0,0 40,0 40,20 0,20", 20, 40, odd}, {"0,0 41,0 41,20 0,20", 20, 40, nil}, {"0,0 40,0 40,21 0,21", 20, 40, nil},
		{"0,0 40,0 40,20 0,20", 40, 40, all}, {"0,0 40,0 40,20 0,20", 39, 40, odd}, {"0,0 40,0 40,20 0,20", 40, 39, even}, {"0,0 40,0 40,20 0,20", 39, 39, nil}, {"0,0 20,0 20,40 0,40", 39, 20, nil}, {"0,0 20,0 20,40 0,40", 40, 20, odd}, {"0,0 20,0 20,40 0,40", 20, 40, even},
		{"0,0 20,0 20,20 0,20", 20, 20, all}, {"0,0 20,0 20,20 0,20", 19, 500, nil}, {"0,0 20,0 20,20 0,20", 500, 19, nil},
		// Not beginning at 0, 0, and where it begins beyond the leaf.
		{"7,3 47,3 47,23 7,23", 40, 20, even}, {"7,3 47,3 47,23 7,23", 20, 40, odd}, {"7,3 47,3 47,23 7,23", 39, 20, nil}, {"19960,19980 20000,19980 20000,20000 19960,20000", 40, 20, even}, {"19960,0 20000,0 20000,20 19960,20", 39, 19, nil}, {"500,600 511,600 505,610", 11, 10, even},
		// Corners that no side of the box has, and a slanted polygon, whose box counts although it would fit by another angle.
		{"0,0 90,0 90,30 30,30 30,60 0,60", 60, 90, odd}, {"5,0 10,5 5,10 0,5", 10, 10, all}, {"0,0 20,20 19,21", 21, 20, odd}, {"0,0 20,20 19,21", 28, 10, nil}, {"0,0 30,1 30,2", 30, 10, even}, {"0,0 30,1 30,2", 10, 30, odd},
		// The limits.
		{"0,0 20000,0 20000,20000 0,20000", most, most, all}, {"0,0 20000,0 20000,20000 0,20000", most - 1, most, nil}, {"0,0 20000,0 20000,20000 0,20000", most, most - 1, nil}, {"0,0 20000,0 20000,10 0,10", most, 10, even}, {"0,0 20000,0 20000,10 0,10", 10, most, odd}, {"0,0 1,0 0,1", 10, 10, all},
	} {
		p, l := poly(c.text), leafOf(c.width, c.length)
		checkFits(t, p, l, c.want...)
		// Defects do not count.
		checkFits(t, p, leafOf(c.width, c.length, box(0, 0, c.width, c.length)), c.want...)
		checkFits(t, p, leafOf(c.width, c.length, box(0, 0, 1, 1), box(c.width-1, 0, 1, c.length)), c.want...)
	}
}

// TestFitsNearTheSides has leaves that are as large as the box, or larger or smaller by one, in both directions.
func TestFitsNearTheSides(t *testing.T) {
	for n, p := range append(goodPolygons(), smallPolygons()[:40]...) {
		p = slices.Concat(p[n%len(p):], p[:n%len(p)])
		width, length := spanOf(p)
		for more := range int64(3) {
			for other := range int64(3) {
				for _, side := range [][2]int64{{width, length}, {length, width}, {width, width}, {length, length}} {
					l := leafOf(side[0]+more-1, side[1]+other-1)
					if impl.ValidLeaf(l) {
						checkFits(t, p, l, turnsThatFitAsTold(p, l)...)
						checkOffcuts(t, l, p)
					}
				}
			}
		}
	}
}

// TestFitsFollowTurnPolygon compares with the box that chapter 3 tells for the turned polygon.
func TestFitsFollowTurnPolygon(t *testing.T) {
	for n, p := range goodPolygons() {
		for _, l := range []impl.Leaf{leafOf(10, 10), leafOf(10, 70), leafOf(100, 40), leafOf(most, 10), goodLeaves()[n%40]} {
			var want []int64
			for by := range int64(8) {
				if _, high, _ := impl.BoundsOf(turn(t, p, by)); high.X <= l.Width && high.Y <= l.Length {
					want = append(want, by)
				}
			}
			checkFits(t, p, l, want...)
		}
	}
}

func checkUnfit(t *testing.T, d impl.Drawing, list []impl.Leaf, want ...int64) {
	t.Helper()
	faces, code := impl.UnfitFaces(d, list)
	checkIndices(t, fmt.Sprintf("UnfitFaces of %v and %v", d, list), faces, code, want, impl.OK)
}

func TestUnfitFaces(t *testing.T) {
	d := drawingOf(poly("0,0 40,0 40,20 0,20"), poly("40,0 50,0 50,10 40,10"), poly("50,0 70,0 70,30 50,30"), poly("0,20 30,20 30,50"))
	for _, c := range []struct {
		sizes []int64
		want  []int64
	}{
		{nil, []int64{0, 1, 2, 3}}, {[]int64{10, 10}, []int64{0, 2, 3}}, {[]int64{40, 20}, []int64{3}}, {[]int64{20, 40}, []int64{3}}, {[]int64{40, 19}, []int64{0, 2, 3}}, {[]int64{30, 30}, []int64{0}}, {[]int64{40, 30}, nil}, {[]int64{29, 500}, []int64{3}}, {[]int64{30, 39}, []int64{0}}, {[]int64{19, 500}, []int64{0, 2, 3}},
		// The last leaf only, the first one only, each another one, and a width of one leaf with a length of the other.
		{[]int64{10, 10, 10, 11, 40, 30}, nil}, {[]int64{40, 30, 10, 10, 10, 11}, nil}, {[]int64{40, 20, 30, 30}, nil}, {[]int64{30, 30, 10, 10, 20, 40}, nil}, {[]int64{40, 10, 10, 30}, []int64{0, 2, 3}}, {slices.Repeat([]int64{39, 30}, 16), []int64{0}},
	} {
		checkUnfit(t, d, oakLeaves(c.sizes...), c.want...)
	}
	checkUnfit(t, draw("10x10;"), nil)
	checkUnfit(t, draw("10x10;0,0 10,0 10,10"), oakLeaves(10, 10))
	checkUnfit(t, crowd(24), oakLeaves(most, most))
	checkUnfit(t, crowd(3), oakLeaves(most, most-1), 0, 1, 2)
	// Defects do not count, and neither does the species.
	checkUnfit(t, d, []impl.Leaf{leafOf(40, 30, box(0, 0, 40, 30))})
	for n, d := range goodDrawings() {
		for _, list := range [][]impl.Leaf{leavesOf(n % 17), oakLeaves(int64(10+n), 30, 12, int64(10+7*n)), givenLeaves()} {
			checkUnfit(t, d, list, unfitAsTold(d, list)...)
		}
	}
}

// checkOffcuts is promise 13 for offcuts: they and the box are all of the leaf, and have no point inside in common.
func checkOffcuts(t *testing.T, l impl.Leaf, p []impl.Point) {
	t.Helper()
	offcuts, code := impl.OffcutsOf(l, p)
	want, taken, wantCode := offcutsAsTold(l, p)
	if !slices.Equal(offcuts, want) || code != wantCode || (code == impl.OK) != impl.FitsLeaf(p, l) {
		t.Fatalf("OffcutsOf(%v, %v) is %v, %d, want %v, %d", l, p, offcuts, code, want, wantCode)
	}
	if code != impl.OK {
		return
	}
	all, area := append(slices.Clone(offcuts), taken), int64(0)
	for k, b := range all {
		area += b.Width * b.Length
		if !withinAsTold(b, l.Width, l.Length) {
			t.Fatalf("OffcutsOf(%v, %v) is %v, beyond the leaf", l, p, offcuts)
		}
		for _, other := range all[:k] {
			if impl.BoxesMeet(b, other) {
				t.Fatalf("OffcutsOf(%v, %v) is %v: %v and %v meet", l, p, offcuts, b, other)
			}
		}
	}
	if area != l.Width*l.Length {
		t.Fatalf("OffcutsOf(%v, %v) is %v: with the box, the area is %d", l, p, offcuts, area)
	}
}

func TestOffcutsOf(t *testing.T) {
	for _, c := range []struct {
		text          string
		width, length int64
		want          []impl.Box
	}{
		// By the first turn that fits: as it is, if it can be, also where a quarter turn fits as well; and else by a quarter turn.
		{"0,0 40,0 40,20 0,20", 30, 50, []impl.Box{box(20, 0, 10, 40), box(0, 40, 30, 10)}}, {"0,0 40,0 40,20 0,20", 100, 90, []impl.Box{box(40, 0, 60, 20), box(0, 20, 100, 70)}}, {"0,0 20,0 20,40 0,40", 100, 90, []impl.Box{box(20, 0, 80, 40), box(0, 40, 100, 50)}}, {"0,0 20,0 20,40 0,40", 50, 30, []impl.Box{box(40, 0, 10, 20), box(0, 20, 50, 10)}},
		// Both, one beside only, one behind only, and none.
		{"0,0 40,0 40,20 0,20", 41, 21, []impl.Box{box(40, 0, 1, 20), box(0, 20, 41, 1)}}, {"0,0 40,0 40,20 0,20", 50, 20, []impl.Box{box(40, 0, 10, 20)}}, {"0,0 40,0 40,20 0,20", 40, 50, []impl.Box{box(0, 20, 40, 30)}}, {"0,0 40,0 40,20 0,20", 40, 20, nil},
		{"0,0 40,0 40,20 0,20", 20, 40, nil}, {"0,0 40,0 40,20 0,20", 20, 50, []impl.Box{box(0, 40, 20, 10)}}, {"0,0 40,0 40,20 0,20", 30, 40, []impl.Box{box(20, 0, 10, 40)}}, {"0,0 40,0 40,20 0,20", 40, 40, []impl.Box{box(0, 20, 40, 20)}}, {"0,0 20,0 20,20 0,20", 20, 20, nil},
		// The box of a polygon, wherever it begins.
		{"0,0 90,0 90,30 30,30 30,60 0,60", 100, 70, []impl.Box{box(90, 0, 10, 60), box(0, 60, 100, 10)}}, {"7,3 47,3 47,23 7,23", 50, 30, []impl.Box{box(40, 0, 10, 20), box(0, 20, 50, 10)}}, {"19960,19980 20000,19980 20000,20000", 20, 50, []impl.Box{box(0, 40, 20, 10)}},
		{"0,0 20000,0 20000,20000 0,20000", most, most, nil}, {"0,0 1,0 0,1", most, most, []impl.Box{box(1, 0, most-1, 1), box(0, 1, most, most-1)}}, {"0,0 1,0 0,1", 10, 10, []impl.Box{box(1, 0, 9, 1), box(0, 1, 10, 9)}},
	} {
		for _, l := range []impl.Leaf{leafOf(c.width, c.length), leafOf(c.width, c.length, box(0, 0, c.width, c.length), box(3, 3, 2, 2))} {
			if got, code := impl.OffcutsOf(l, poly(c.text)); !slices.Equal(got, c.want) || code != impl.OK {
				t.Errorf("OffcutsOf(%v, %s) is %v, %d, want %v", l, c.text, got, code, c.want)
			}
			checkOffcuts(t, l, poly(c.text))
		}
	}
	for _, size := range [][2]int64{{39, 39}, {40, 19}, {19, 40}, {19, most}, {most, 19}, {10, 10}} {
		got, code := impl.OffcutsOf(leafOf(size[0], size[1]), poly("0,0 40,0 40,20 0,20"))
		checkNone(t, fmt.Sprint("OffcutsOf on a leaf with the size ", size), len(got), code, impl.ErrState)
	}
	for n, p := range append(goodPolygons(), smallPolygons()[:100]...) {
		for _, l := range []impl.Leaf{goodLeaves()[n%40], leafOf(most, most), leafOf(10, most), leafOf(int64(10+n), int64(100-n%90))} {
			checkOffcuts(t, l, p)
		}
	}
}
