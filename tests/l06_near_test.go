package tests

import (
	"fmt"
	"math"
	"testing"

	"loop.example/g00956/impl"
)

func TestLimitsOfCleaning(t *testing.T) {
	if impl.MaxTolerance != 200 || impl.MaxSliver != 2000 {
		t.Errorf("limits %d and %d", impl.MaxTolerance, impl.MaxSliver)
	}
}

// near is a case of a function with a tolerance; if want is empty, the result would not be valid.
type near struct {
	text      string
	tolerance int64
	want      string
}

func checkNearCases(t *testing.T, what string, made func(d impl.Drawing, tolerance int64) (impl.Drawing, int64), cases []near) {
	t.Helper()
	for _, c := range cases {
		d := draw(c.text)
		if !impl.ValidDrawing(d) {
			t.Fatalf("%s is not valid", c.text)
		}
		got, code := made(d, c.tolerance)
		if c.want == "" {
			checkMade(t, fmt.Sprint(what, " ", c.text, " ", c.tolerance), got, code, impl.Drawing{}, impl.ErrState)
		} else {
			checkMade(t, fmt.Sprint(what, " ", c.text, " ", c.tolerance), got, code, draw(c.want), impl.OK)
		}
		checkCleaning(t, d, c.tolerance)
	}
}

func TestSnapDrawing(t *testing.T) {
	checkNearCases(t, "SnapDrawing", impl.SnapDrawing, []near{
		{"40x20;3,0", 5, "40x20;0,0"}, {"40x20;3,0", 2, "40x20;3,0"}, {"40x20;3,4 37,16", 4, "40x20;0,0 40,20"}, {"40x20;0,0 40,0 40,20 0,20;a 0,1,2,3", 10, "40x20;0,0 40,0 40,20 0,20;a 0,1,2,3"},
		// Just the tolerance, and one more, at each side, for one coordinate and for both.
		{"100x200;5,50 6,50 95,50 94,50", 5, "100x200;0,50 6,50 100,50 94,50"}, {"100x200;50,5 50,6 50,195 50,194", 5, "100x200;50,0 50,6 50,200 50,194"}, {"100x200;5,6 6,5 95,194 94,195", 5, "100x200;0,6 6,0 100,194 94,200"},
		{"100x200;1,1 99,199 2,2 98,198", 1, "100x200;0,0 100,200 2,2 98,198"}, {"20000x20000;200,19800 201,19799 19800,200 19799,201", 200, "20000x20000;0,20000 201,19799 20000,0 19799,201"},
		// The other side is the nearer one, but 0 comes first; a panel that is no wider than the tolerance.
		{"10x10;5,5 6,6", 5, "10x10;0,0 10,10"}, {"10x10;6,4", 6, "10x10;0,0"}, {"10x300;10,150 0,140 4,160", 10, "10x300;0,150 0,140 0,160"}, {"300x10;150,10 140,0 160,9", 10, "300x10;150,0 140,0 160,0"}, {"10x300;9,150 10,140", 9, "10x300;0,150 10,140"},
		{"300x400;150,150", 200, "300x400;0,0"}, {"300x401;201,201", 200, "300x401;300,401"}, {"402x402;201,201", 200, "402x402;201,201"}, {"12x10;7,3", 5, "12x10;12,0"}, {"10x12;3,7", 5, "10x12;0,12"}, {"10x20;10,15", 10, "10x20;0,20"},
		// The sides are not exchanged: Width is for X, and Height for Y.
		{"100x200;98,2 2,98", 3, "100x200;100,0 0,98"}, {"200x100;98,2 2,98", 3, "200x100;98,0 0,100"},
		// Without a tolerance, nothing changes.
		{"20x10;1,1 19,9 0,5 20,5 5,10", 0, "20x10;1,1 19,9 0,5 20,5 5,10"}, {"10x10;", 200, "10x10;"},
		// Rings, names, and points that no Ring has.
		{"100x100;2,3 98,1 97,99 50,50 3,50;a 0,1,2;b 2,4,0", 3, "100x100;0,0 100,0 100,100 50,50 0,50;a 0,1,2;b 2,4,0"}, {"100x100;50,50 2,3 98,1 97,99;z9 3,1,2", 3, "100x100;50,50 0,0 100,0 100,100;z9 3,1,2"},
	})
}

func TestSnapDrawingToWhatIsNotValid(t *testing.T) {
	checkNearCases(t, "SnapDrawing", impl.SnapDrawing, []near{
		// Points become equal, also such as no Ring has: at each side, at a corner.
		{"100x100;0,50 3,50", 3, ""}, {"100x100;0,50 3,50", 2, "100x100;0,50 3,50"}, {"100x100;97,50 100,50", 3, ""}, {"100x100;50,0 50,1", 1, ""}, {"100x100;50,99 50,100", 1, ""}, {"100x100;2,2 1,3", 3, ""}, {"100x100;1,2 50,50 2,1", 2, ""}, {"10x100;4,50 9,50", 9, ""},
		{"10x100;4,50 10,50", 10, ""}, {"10x100;4,50 10,50", 9, "10x100;0,50 10,50"}, {"100x100;0,0 100,0 0,100 3,50 0,50;a 0,1,2", 3, ""}, {"100x100;0,0 100,0 0,100 3,100;a 0,1,2", 3, ""},
		// Faces become degenerate: their points lie on a line, a corner lies on another edge, edges cross, they go around to the right.
		{"100x100;0,0 100,0 50,3;a 0,1,2", 3, ""}, {"100x100;0,0 100,0 50,3;a 0,1,2", 2, "100x100;0,0 100,0 50,3;a 0,1,2"}, {"100x100;3,10 3,90 2,50;a 0,1,2", 3, ""}, {"100x100;0,0 100,0 100,100 50,3 0,100;a 0,1,2,3,4", 3, ""},
		{"100x100;10,0 50,8 50,60 20,3;a 0,1,2,3", 3, ""}, {"100x100;10,0 50,8 50,60 20,3;a 0,1,2,3", 2, "100x100;10,0 50,8 50,60 20,3;a 0,1,2,3"}, {"100x100;10,0 50,8 20,3;a 0,1,2", 3, ""}, {"100x100;10,4 20,3 30,4 20,50;a 0,1,2,3", 3, "100x100;10,4 20,0 30,4 20,50;a 0,1,2,3"},
		// Only the last one of several.
		{"100x100;0,0 100,0 50,50 10,3 90,3 50,2;a 0,1,2;b 5,4,3", 3, ""}, {"100x100;0,0 100,0 50,50 10,99 90,99 50,98;a 0,1,2;b 5,4,3", 2, ""}, {"100x100;0,0 100,0 50,50 10,99 90,99 50,97;a 0,1,2;b 5,4,3", 2, "100x100;0,0 100,0 50,50 10,100 90,100 50,97;a 0,1,2;b 5,4,3"},
	})
}

func TestMergePoints(t *testing.T) {
	checkNearCases(t, "MergePoints", impl.MergePoints, []near{
		// In chains, each point joins the first one that has stayed.
		{"40x20;0,0 4,0 8,0 12,0 16,0", 5, "40x20;0,0 8,0 16,0"}, {"40x20;16,0 12,0 8,0 4,0 0,0", 5, "40x20;16,0 8,0 0,0"}, {"40x20;4,0 0,0 8,0", 4, "40x20;4,0"}, {"40x20;0,0 8,0 4,0", 4, "40x20;0,0 8,0"}, {"40x20;0,0 3,0 6,0 9,0", 3, "40x20;0,0 6,0"},
		{"40x20;0,0 1,0 2,0 3,0 4,0 5,0 6,0 7,0 8,0 9,0", 2, "40x20;0,0 3,0 6,0 9,0"}, {"40x20;9,0 8,0 7,0 6,0 5,0 4,0 3,0 2,0 1,0 0,0", 2, "40x20;9,0 6,0 3,0 0,0"},
		// The first one, not the nearest one.
		{"40x40;0,0 8,0 5,0 0,30 30,30;a 2,4,3", 5, "40x40;0,0 8,0 0,30 30,30;a 0,3,2"}, {"40x40;8,0 0,0 3,0 0,30 30,30;a 2,4,3", 5, "40x40;8,0 0,0 0,30 30,30;a 0,3,2"}, {"40x40;0,0 8,0 6,0 0,30 30,30;a 2,4,3", 5, "40x40;0,0 8,0 0,30 30,30;a 1,3,2"},
		// Just the tolerance, and one more; distances are rounded down.
		{"40x20;0,0 3,4", 5, "40x20;0,0"}, {"40x20;0,0 3,4", 4, "40x20;0,0 3,4"}, {"40x20;0,0 4,4", 5, "40x20;0,0"}, {"40x20;0,0 5,3", 5, "40x20;0,0"}, {"40x20;0,0 6,0", 5, "40x20;0,0 6,0"}, {"40x20;0,0 6,1", 5, "40x20;0,0 6,1"}, {"40x20;1,1 0,0", 1, "40x20;1,1"}, {"40x20;2,0 0,0", 1, "40x20;2,0 0,0"},
		{"20000x20000;0,0 200,0 0,201 142,142 142,143", 200, "20000x20000;0,0 0,201"}, {"20000x20000;20000,20000 19800,20000 19799,20000", 200, "20000x20000;20000,20000 19799,20000"}, {"20000x20000;0,0 143,143", 200, "20000x20000;0,0 143,143"},
		// Indices of Rings, and equal ones that follow one another: in the middle, at the beginning, at the end, at both, and more than two.
		{"40x20;0,0 2,0 20,0 0,20;a 0,1,2,3", 2, "40x20;0,0 20,0 0,20;a 0,1,2"}, {"40x40;0,0 30,0 32,0 30,30 0,30;a 0,1,2,3,4", 2, "40x40;0,0 30,0 30,30 0,30;a 0,1,2,3"}, {"40x40;0,0 2,0 30,0 30,30;a 0,1,2,3", 2, "40x40;0,0 30,0 30,30;a 0,1,2"},
		{"40x40;0,0 30,0 30,30 28,30;a 0,1,2,3", 2, "40x40;0,0 30,0 30,30;a 0,1,2"}, {"40x40;0,0 30,0 30,30 0,2;a 0,1,2,3", 2, "40x40;0,0 30,0 30,30;a 0,1,2"}, {"40x40;0,0 30,0 30,30 0,2;a 3,0,1,2", 2, "40x40;0,0 30,0 30,30;a 0,1,2"},
		{"40x40;0,0 30,0 30,30 0,2;a 1,2,3,0", 2, "40x40;0,0 30,0 30,30;a 1,2,0"}, {"40x40;0,2 30,0 30,30 0,0;a 3,1,2,0", 2, "40x40;0,2 30,0 30,30;a 0,1,2"}, {"40x40;0,0 2,0 30,0 30,30 0,2;a 0,1,2,3,4", 2, "40x40;0,0 30,0 30,30;a 0,1,2"},
		{"40x40;0,0 30,0 30,30 1,2 0,1;a 0,1,2,3,4", 2, "40x40;0,0 30,0 30,30;a 0,1,2"}, {"40x40;0,0 30,0 31,1 31,2 0,30;a 0,1,2,3,4", 2, "40x40;0,0 30,0 0,30;a 0,1,2"}, {"40x40;0,0 1,0 2,0 30,0 30,30 2,2 0,2 0,1;a 0,1,2,3,4,5,6,7", 2, "40x40;0,0 30,0 30,30;a 0,1,2"},
		{"40x40;30,0 30,30 0,2 0,0 2,0;a 2,3,4,0,1", 2, "40x40;30,0 30,30 0,2;a 2,0,1"}, {"40x40;0,0 2,0 30,0 28,0 30,30 30,28 0,30 0,28;a 0,1,3,2,5,4,6,7", 2, "40x40;0,0 30,0 30,30 0,30;a 0,1,2,3"},
		// Several faces, and points that no Ring has: one may join another of them, or a point of a Ring it.
		{"40x20;0,0 20,0 20,20 0,20 21,0 40,0 40,20 21,20;a 0,1,2,3;b 4,5,6,7", 1, "40x20;0,0 20,0 20,20 0,20 40,0 40,20;a 0,1,2,3;b 1,4,5,2"}, {"40x20;21,20 40,20 21,0 40,0 0,0 20,0 20,20 0,20;a 4,5,6,7;b 2,3,1,0", 1, "40x20;21,20 40,20 21,0 40,0 0,0 0,20;a 4,2,0,5;b 2,3,1,0"},
		{"40x40;1,1 0,0 30,0 0,30;a 1,2,3", 1, "40x40;1,1 30,0 0,30;a 0,1,2"}, {"40x40;20,20 0,0 21,21 30,0 20,21 0,30 19,20;a 1,3,5", 1, "40x40;20,20 0,0 30,0 0,30;a 1,2,3"},
		// Without a tolerance, nothing changes: the distance of different points is at least 1.
		{"10x10;0,0 1,0 0,1 1,1", 0, "10x10;0,0 1,0 0,1 1,1"}, {"10x10;0,0 1,0 0,1 1,1", 1, "10x10;0,0"}, {"10x10;0,0 1,0 1,1 0,1;a 0,1,2,3", 0, "10x10;0,0 1,0 1,1 0,1;a 0,1,2,3"}, {"10x10;", 200, "10x10;"},
	})
}

func TestMergePointsToWhatIsNotValid(t *testing.T) {
	checkNearCases(t, "MergePoints", impl.MergePoints, []near{
		// Rings keep fewer than three points: one, two, two in turn.
		{"40x20;0,0 2,0 20,0 0,20;a 0,1,2,3", 25, ""}, {"40x40;0,0 2,0 0,2;a 0,1,2", 2, ""}, {"40x40;0,0 2,0 0,2;a 0,1,2", 1, "40x40;0,0 2,0 0,2;a 0,1,2"}, {"40x40;0,0 2,0 0,30;a 0,1,2", 2, ""}, {"40x40;0,0 30,0 0,2;a 0,1,2", 2, ""}, {"40x40;0,0 30,0 0,2;a 1,2,0", 2, ""},
		{"40x40;0,0 30,0 30,2 0,2;a 0,1,2,3", 2, ""}, {"40x40;0,0 30,0 30,2 0,2;a 0,1,2,3", 1, "40x40;0,0 30,0 30,2 0,2;a 0,1,2,3"}, {"40x40;20,0 21,0 20,1 0,0 20,30;a 0,1,2", 1, ""},
		// Equal indices that do not follow one another, points on a line, a corner on another edge, around to the right.
		{"60x60;0,0 30,20 60,0 60,60 30,22 0,60;a 0,1,2,3,4,5", 2, ""}, {"60x60;0,0 30,20 60,0 60,60 30,22 0,60;a 0,1,2,3,4,5", 1, "60x60;0,0 30,20 60,0 60,60 30,22 0,60;a 0,1,2,3,4,5"}, {"40x40;15,0 0,0 30,0 15,2;a 1,2,3", 2, ""}, {"40x40;15,0 0,0 30,0 30,30 15,2 0,30;a 1,2,3,4,5", 2, ""},
		{"40x40;15,10 0,11 30,11 15,12;a 1,2,3", 2, ""}, {"40x40;15,0 0,1 30,1 15,2 15,30;a 1,3,2,4", 2, "40x40;15,0 0,1 30,1 15,30;a 1,0,2,3"},
		// Only the last one of several.
		{"40x40;0,0 30,0 0,30 32,30 30,32 30,30;a 0,1,2;b 5,3,4", 2, ""}, {"40x40;0,0 30,0 0,30 33,30 30,33 30,30;a 0,1,2;b 5,3,4", 2, "40x40;0,0 30,0 0,30 33,30 30,33 30,30;a 0,1,2;b 5,3,4"},
	})
}

// TestMergePointsCounts joins all of the points that there may be, and none.
func TestMergePointsCounts(t *testing.T) {
	d := dots(impl.MaxPoints)
	got, code := impl.MergePoints(d, 100)
	checkMade(t, "MergePoints", got, code, draw("100x10;0,0"), impl.OK)
	got, code = impl.MergePoints(d, 1)
	checkMade(t, "MergePoints", got, code, d, impl.OK)
	for _, d := range goodDrawings() {
		got, code := impl.MergePoints(d, 0)
		checkMade(t, "MergePoints", got, code, d, impl.OK)
		got, code = impl.SnapDrawing(d, 0)
		checkMade(t, "SnapDrawing", got, code, d, impl.OK)
	}
}

// noTolerances are not from 0 to MaxTolerance.
var noTolerances = []int64{-1, -2, -impl.MaxTolerance, impl.MaxTolerance + 1, impl.MaxTolerance + 2, -1 << 32, 1 << 32, 1<<32 + 5, math.MinInt64, math.MinInt64 + 1, math.MinInt64 + 200, math.MaxInt64 - 1, math.MaxInt64}

// withTolerance are the functions with a tolerance.
var withTolerance = map[string]func(d impl.Drawing, tolerance int64) (impl.Drawing, int64){
	"SnapDrawing": impl.SnapDrawing, "MergePoints": impl.MergePoints, "CleanDrawing": impl.CleanDrawing,
}

// TestTolerancesAreRefused also has drawings for which ErrState would follow.
func TestTolerancesAreRefused(t *testing.T) {
	all := append(goodDrawings(), draw("100x100;0,50 3,50 50,50"), draw("100x100;0,0 1,1 2,0;a 0,2,1"), combs(24, 21))
	for what, made := range withTolerance {
		for _, d := range all {
			for _, tolerance := range noTolerances {
				got, code := made(d, tolerance)
				checkMade(t, fmt.Sprint(what, " ", d, " ", tolerance), got, code, impl.Drawing{}, impl.ErrRange)
			}
			for _, tolerance := range []int64{0, 1, impl.MaxTolerance - 1, impl.MaxTolerance} {
				if _, code := made(d, tolerance); code != impl.OK && code != impl.ErrState {
					t.Errorf("%s(%v, %d) returns the code %d", what, d, tolerance, code)
				}
			}
		}
	}
}

// TestCleaningRefusesDrawings has tolerances that are none, too.
func TestCleaningRefusesDrawings(t *testing.T) {
	forBadDrawings(func(reason string, d impl.Drawing) {
		where := fmt.Sprintf(" (%s) of %.300v", reason, fmt.Sprint(d))
		for _, n := range []int64{0, 5, impl.MaxTolerance, impl.MaxTolerance + 1, -1, math.MinInt64, math.MaxInt64} {
			for name, made := range makers {
				got, code := made(d, n, 1)
				checkMade(t, name+where, got, code, impl.Drawing{}, impl.ErrInvalid)
			}
			got, code := impl.JoinFaces(d, 0, n)
			checkMade(t, "JoinFaces"+where, got, code, impl.Drawing{}, impl.ErrInvalid)
			slivers, code := impl.SliversOf(d, n)
			checkNone(t, "SliversOf"+where, len(slivers), code, impl.ErrInvalid)
		}
		junctions, code := impl.JunctionsOf(d)
		checkNone(t, "JunctionsOf"+where, len(junctions), code, impl.ErrInvalid)
		straight, code := impl.StraightPoints(d)
		checkNone(t, "StraightPoints"+where, len(straight), code, impl.ErrInvalid)
		if impl.IsClean(d) {
			t.Errorf("IsClean%s is true", where)
		}
	})
}

func checkNone(t *testing.T, what string, length int, code, want int64) {
	t.Helper()
	if length != 0 || code != want {
		t.Errorf("%s has %d results and the code %d, want %d", what, length, code, want)
	}
}
