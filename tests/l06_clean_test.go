package tests

import (
	"fmt"
	"testing"

	"loop.example/g00956/impl"
)

// stepsOfCleaning are the five functions, in the order in which CleanDrawing calls them.
var stepsOfCleaning = []struct {
	name string
	made func(d impl.Drawing, tolerance int64) (impl.Drawing, int64)
}{
	{"SnapDrawing", impl.SnapDrawing}, {"MergePoints", impl.MergePoints},
	{"InsertJunctions", func(d impl.Drawing, _ int64) (impl.Drawing, int64) { return impl.InsertJunctions(d) }},
	{"DropStraight", func(d impl.Drawing, _ int64) (impl.Drawing, int64) { return impl.DropStraight(d) }},
	{"DropUnused", func(d impl.Drawing, _ int64) (impl.Drawing, int64) { return impl.DropUnused(d) }},
}

// inSteps also returns the names of the steps that change something, or of the one with an error.
func inSteps(d impl.Drawing, tolerance int64) (impl.Drawing, int64, string) {
	names := ""
	for _, step := range stepsOfCleaning {
		next, code := step.made(d, tolerance)
		if code != impl.OK {
			return impl.Drawing{}, code, step.name
		}
		if !impl.SameDrawing(d, next) {
			names += " " + step.name
		}
		d = next
	}
	return d, impl.OK, names
}

// checkInSteps compares CleanDrawing with its steps, and returns their names.
func checkInSteps(t *testing.T, d impl.Drawing, tolerance int64) string {
	t.Helper()
	want, wantCode, names := inSteps(d, tolerance)
	got, code := impl.CleanDrawing(d, tolerance)
	checkMade(t, fmt.Sprint("CleanDrawing ", d, tolerance), got, code, want, wantCode)
	return names
}

func TestCleanDrawing(t *testing.T) {
	const tee = "40x20;0,0 20,0 40,0 40,20 20,20 0,20 20,10;a 0,1,4,5;b 1,2,3,4,6"
	for _, c := range []struct {
		text      string
		tolerance int64
		steps     string
		want      string
	}{
		// Nothing to do; no faces, and no points.
		{"20x10;0,0 20,0 20,10 0,10;a 0,1,2;b 0,2,3", 9, "", "20x10;0,0 20,0 20,10 0,10;a 0,1,2;b 0,2,3"}, {"10x10;", 200, "", "10x10;"}, {"10x10;3,4 5,6", 0, " DropUnused", "10x10;"}, {"10x10;3,4 6,5", 5, " SnapDrawing DropUnused", "10x10;"}, {"20x20;8,8 9,9", 5, " MergePoints DropUnused", "20x20;"},
		// Each step alone, as far as none must follow: a straight point that is dropped is not used any more.
		{"100x100;3,2 100,0 99,97;a 0,1,2", 3, " SnapDrawing", "100x100;0,0 100,0 100,100;a 0,1,2"}, {"100x100;50,50 52,50 80,50 80,80;a 0,1,2,3", 2, " MergePoints", "100x100;50,50 80,50 80,80;a 0,1,2"}, {bricks, 0, " InsertJunctions",
			"40x30;0,0 20,0 20,10 0,10 40,0 40,10 10,10 10,20 0,20 30,10 30,20 40,20 20,20 20,30 0,30 40,30;a 0,1,2,6,3;b 1,4,5,9,2;c 3,6,7,8;d 6,2,9,10,12,7;e 9,5,11,10;f 8,7,12,13,14;g 12,10,11,15,13"},
		{"20x20;0,0 10,0 20,0 20,20 0,20;a 0,1,2,3,4", 0, " DropStraight DropUnused", "20x20;0,0 20,0 20,20 0,20;a 0,1,2,3"}, {"20x20;5,5 0,0 20,0 6,6 20,20 0,20 10,0;a 1,2,4,5", 0, " DropUnused", "20x20;0,0 20,0 20,20 0,20;a 0,1,2,3"},
		{tee, 2, " InsertJunctions DropStraight DropUnused", "40x20;0,0 20,0 40,0 40,20 20,20 0,20;a 0,1,4,5;b 1,2,3,4"}, {tee, 9, " InsertJunctions DropStraight DropUnused", "40x20;0,0 20,0 40,0 40,20 20,20 0,20;a 0,1,4,5;b 1,2,3,4"},
		// All steps: the corners are snapped, 51,42 joins 50,40, which is put into a and stays there, because it is a corner of b and c, 75,0 is dropped, and it and 20,80 are not used.
		{"100x100;2,1 50,0 99,0 100,40 98,100 50,100 0,97 50,40 51,42 20,80 75,0;a 0,1,5,6;b 8,3,4,5;c 1,10,2,3,7", 3, " SnapDrawing MergePoints InsertJunctions DropStraight DropUnused", "100x100;0,0 50,0 100,0 100,40 100,100 50,100 0,100 50,40;a 0,1,7,5,6;b 7,3,4,5;c 1,2,3,7"},
		// Snapping comes before merging: two points are near before it only, or after it only.
		{"100x100;4,50 8,50 50,90;a 0,1,2", 5, " SnapDrawing", "100x100;0,50 8,50 50,90;a 0,1,2"}, {"100x100;5,40 50,10 50,90 0,45;a 0,1,2,3", 5, " SnapDrawing MergePoints", "100x100;0,40 50,10 50,90;a 0,1,2"},
		// Merging comes before the junctions: 50,40 is on the edge of a, 53,42 is not. Snapping brings 40,2 onto an edge.
		{"100x100;0,0 50,0 50,100 0,100 50,40 90,30 90,90 53,42 90,50;a 0,1,2,3;b 7,8,6;c 5,8,4", 3, " MergePoints InsertJunctions", "100x100;0,0 50,0 50,100 0,100 50,40 90,30 90,90 90,50;a 0,1,4,2,3;b 4,7,6;c 5,7,4"},
		{"100x100;0,0 100,0 100,50 0,50 40,2 60,20 20,20;a 0,1,2,3;b 4,5,6", 2, " SnapDrawing InsertJunctions", "100x100;0,0 100,0 100,50 0,50 40,0 60,20 20,20;a 0,4,1,2,3;b 4,5,6"},
		// Junctions come before straight points: 20,10 is straight in b, and in a as well.
		{"40x20;0,0 20,0 20,20 0,20 20,10 40,0 40,20;a 0,1,2,3;b 1,5,6,2,4", 0, " InsertJunctions DropStraight DropUnused", "40x20;0,0 20,0 20,20 0,20 40,0 40,20;a 0,1,2,3;b 1,4,5,2"},
	} {
		d := draw(c.text)
		if !impl.ValidDrawing(d) {
			t.Fatalf("%s is not valid", c.text)
		}
		got, code := impl.CleanDrawing(d, c.tolerance)
		checkMade(t, fmt.Sprint("CleanDrawing ", c.text, " ", c.tolerance), got, code, draw(c.want), impl.OK)
		if names := checkInSteps(t, d, c.tolerance); names != c.steps {
			t.Errorf("cleaning %s changes it in the steps%s, want%s", c.text, names, c.steps)
		}
		checkPromise7(t, d, c.tolerance)
	}
}

func TestCleanDrawingReturnsTheFirstError(t *testing.T) {
	square := draw("20x10;0,0 20,0 20,10 0,10;a 0,1,2,3")
	for _, c := range []struct {
		d         impl.Drawing
		tolerance int64
		code      int64
		step      string
	}{
		{impl.Drawing{}, 0, impl.ErrInvalid, "SnapDrawing"}, {impl.Drawing{}, -1, impl.ErrInvalid, "SnapDrawing"}, {square, -1, impl.ErrRange, "SnapDrawing"}, {square, 201, impl.ErrRange, "SnapDrawing"}, {square, 10, impl.ErrState, "SnapDrawing"},
		{draw("100x100;0,50 3,50"), 3, impl.ErrState, "SnapDrawing"}, {draw("100x100;0,50 3,50"), 201, impl.ErrRange, "SnapDrawing"}, {draw("100x100;40,40 42,40 40,60;a 0,1,2"), 2, impl.ErrState, "MergePoints"}, {draw("100x100;0,0 40,40 42,40 40,60 0,3;a 1,2,3"), 2, impl.ErrState, "MergePoints"},
		{combs(24, 1), 0, impl.ErrState, "InsertJunctions"}, {combs(4, 21), 3, impl.ErrState, "InsertJunctions"}, {combs(24, 21), impl.MaxTolerance + 1, impl.ErrRange, "SnapDrawing"},
	} {
		_, _, name := inSteps(c.d, c.tolerance)
		got, code := impl.CleanDrawing(c.d, c.tolerance)
		checkMade(t, fmt.Sprint("CleanDrawing ", c.d, c.tolerance), got, code, impl.Drawing{}, c.code)
		if name != c.step {
			t.Errorf("the first error for %v is that of %s", c.d, name)
		}
	}
}

// TestCleanDrawingMakesTheSteps compares with the five functions, with as many of their errors as there are.
func TestCleanDrawingMakesTheSteps(t *testing.T) {
	counts := map[string]int{}
	for k, d := range append(goodDrawings(), messyDrawings()...) {
		counts[checkInSteps(t, d, 0)]++
		counts[checkInSteps(t, d, tolerances[k%len(tolerances)])]++
		counts[checkInSteps(t, d, tolerances[(k+3)%len(tolerances)])]++
	}
	for corners := 3; corners <= impl.MaxCorners; corners++ {
		counts[checkInSteps(t, combs(corners, 21), 0)]++
		counts[checkInSteps(t, combs(corners, 21), 10)]++
	}
	for _, names := range []string{"", "SnapDrawing", "MergePoints", "InsertJunctions", " SnapDrawing MergePoints InsertJunctions DropStraight DropUnused", " InsertJunctions DropStraight DropUnused"} {
		if counts[names] < 5 {
			t.Errorf("only %d drawings are cleaned in the steps %s: %v", counts[names], names, counts)
		}
	}
}

func TestIsClean(t *testing.T) {
	const insertedBricks = "40x30;0,0 20,0 20,10 0,10 40,0 40,10 10,10 10,20 0,20 30,10 30,20 40,20 20,20 20,30 0,30 40,30;a 0,1,2,6,3;b 1,4,5,9,2;c 3,6,7,8;d 6,2,9,10,12,7;e 9,5,11,10;f 8,7,12,13,14;g 12,10,11,15,13"
	for _, c := range []struct {
		text string
		want bool
	}{
		{"20x10;0,0 20,0 20,10 0,10;a 0,1,2;b 0,2,3", true}, {"10x10;", true}, {"20000x20000;", true}, {"10x10;5,5", false}, {"10x10;0,0 10,0 10,10", false},
		// A junction only; a point that is straight in some faces, but not in all.
		{bricks, false}, {insertedBricks, true}, {"20x20;0,0 10,0 10,20 0,20 20,0 20,20 10,10 20,10;a 0,1,6,2,3;b 1,4,7,6;c 6,7,5,2", true}, {"20x20;0,0 10,0 10,20 0,20 20,0 20,20 10,10 20,10;a 0,1,2,3;b 1,4,7,6;c 6,7,5,2", false},
		// A straight point only: in one face, in two.
		{"20x20;0,0 10,0 20,0 20,20 0,20;a 0,1,2,3,4", false}, {"20x20;0,0 20,0 20,20 0,20;a 0,1,2,3", true}, {"40x20;0,0 20,0 40,0 40,20 20,20 0,20 20,10;a 0,1,6,4,5;b 1,2,3,4,6", false}, {"40x20;0,0 20,0 40,0 40,20 20,20 0,20;a 0,1,4,5;b 1,2,3,4", true},
		// A point only that no Ring has: within a face, on an edge, beside all faces; as the first, a middle and the last one.
		{"20x20;0,0 20,0 20,20 0,20 5,5;a 0,1,2,3", false}, {"20x20;5,0 0,0 20,0 20,20 0,20;a 1,2,3,4", false}, {"20x20;0,0 10,0 9,9 10,10 0,10 ;a 0,1,3,4", false}, {"20x20;0,0 10,0 20,20 10,10 0,10;a 0,1,3,4", false},
		// What does not matter: overlaps, gaps, slivers, near points.
		{"20x10;0,0 20,0 20,10 0,10;a 0,1,2;b 0,1,2,3", true}, {"20x10;0,0 20,0 20,10;a 0,1,2", true}, {"20000x10;0,0 20000,1 20000,2;a 0,1,2", true}, {"20x20;5,5 6,5 6,6;a 0,1,2", true},
		// Not valid.
		{"9x10;", false}, {"10x10;0,0 10,0 10,10;a 0,1", false}, {"10x10;0,0 10,0 10,10;a 0,1,2;a 0,1,2", false}, {"10x10;0,0 10,0 10,10;a 2,1,0", false},
	} {
		if got := impl.IsClean(draw(c.text)); got != c.want || got != isCleanAsTold(draw(c.text)) {
			t.Errorf("IsClean(%s) is %v", c.text, got)
		}
	}
}
