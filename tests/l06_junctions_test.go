package tests

import (
	"fmt"
	"slices"
	"testing"

	"loop.example/g00956/impl"
)

// bricks are seven faces in three rows, which meet in junctions.
const bricks = "40x30;0,0 20,0 20,10 0,10 40,0 40,10 10,10 10,20 0,20 30,10 30,20 40,20 20,20 20,30 0,30 40,30;a 0,1,2,3;b 1,4,5,2;c 3,6,7,8;d 6,9,10,7;e 9,5,11,10;f 8,12,13,14;g 12,11,15,13"

func TestJunctionsOf(t *testing.T) {
	for _, c := range []struct{ text, want string }{
		{"40x20;0,0 20,0 40,0 40,20 20,20 0,20 20,10;a 0,1,4,5;b 1,2,3,4,6", "[[6 0]]"}, {"10x10;", "[]"}, {"10x10;0,0 10,0 10,10", "[]"},
		// On an edge, but no Ring has the point, or only that of the face itself.
		{"20x20;0,0 20,0 20,20 0,20 10,0;a 0,1,2,3", "[]"}, {"20x20;0,0 20,0 20,20 0,20 10,0;a 0,4,1,2,3", "[]"}, {"20x20;0,0 20,0 20,20 0,20 10,0;a 0,1,2,3;b 0,1,2", "[]"}, {"20x20;0,0 20,0 20,20 0,20 10,0;a 0,1,2,3;b 0,4,1,2", "[[4 0]]"},
		// A corner of both, a corner within the other, one beyond the end of an edge, one beside an edge.
		{"20x10;0,0 20,0 20,10 0,10;a 0,1,2;b 0,2,3", "[]"}, {"30x30;0,0 30,0 30,30 0,30 10,10 20,10 20,20;a 0,1,2,3;b 4,5,6", "[]"}, {"40x20;0,0 20,0 20,10 0,10 30,0 40,0 40,10;a 0,1,2,3;b 4,5,6", "[]"}, {"40x20;0,0 20,0 20,10 0,10 21,5 40,0 40,10;a 0,1,2,3;b 4,5,6", "[]"},
		{"20x20;0,0 20,0 20,20 0,20;a 0,1,2,3;b 0,1,2,3", "[]"},
		// On the edge from the last point to the first one, on the first edge, and on one between them.
		{"20x20;10,10 0,10 0,0 10,0 10,5 20,5 20,8;a 0,1,2,3;b 4,5,6", "[[4 0]]"}, {"20x20;10,0 10,10 0,10 0,0 10,5 20,5 20,8;a 0,1,2,3;b 4,5,6", "[[4 0]]"}, {"20x20;10,10 0,10 0,0 10,0 10,5 20,5 20,8;a 3,0,1,2;b 5,6,4", "[[4 0]]"}, {"20x20;10,10 0,10 0,0 10,0 10,5 20,5 20,8;a 2,3,0,1;b 4,5,6", "[[4 0]]"},
		// Several, in the order of the faces, and then of the points.
		{bricks, "[[6 0] [9 1] [2 3] [12 3] [7 5] [10 6]]"}, {"60x20;0,0 60,0 60,10 0,10 30,10 10,10 50,10 20,20 40,20;a 0,1,2,3;b 5,4,7;c 4,6,8", "[[4 0] [5 0] [6 0]]"}, {"60x20;0,0 60,0 60,10 0,10 30,10 10,10 50,10 20,20 40,20;a 5,4,7;b 4,6,8;c 0,1,2,3", "[[4 2] [5 2] [6 2]]"},
		// One point on the edges of several faces; both faces have one on the other.
		{"20x20;0,0 10,0 10,20 0,20 20,0 20,20 10,10 15,12 12,15;a 0,1,2,3;b 1,4,5,2;c 6,7,8", "[[6 0] [6 1]]"}, {"20x40;0,0 10,0 10,20 0,20 10,10 20,10 20,30 10,30;a 0,1,2,3;b 4,5,6,7", "[[4 0] [2 1]]"},
		// On a slanted edge, and near to it.
		{"40x40;0,0 40,0 40,40 10,10 30,30 5,30;a 0,1,2;b 3,4,5", "[[3 0] [4 0]]"}, {"40x40;0,0 40,0 40,40 10,11 30,30 5,30;a 0,1,2;b 3,4,5", "[[4 0]]"}, {"20000x20000;0,0 20000,19998 0,20000 10000,9999 20000,0;a 0,1,2;b 0,4,3", "[[3 0]]"}, {"20000x20000;0,0 20000,19999 0,20000 10000,9999 20000,0;a 0,1,2;b 0,4,3", "[]"},
	} {
		d := draw(c.text)
		if !impl.ValidDrawing(d) {
			t.Fatalf("%s is not valid", c.text)
		}
		junctions, code := impl.JunctionsOf(d)
		checkList(t, "JunctionsOf "+c.text, junctions, code, c.want)
		checkSteps(t, d)
	}
}

// checkStepCases compares drawings that are made of others, and makes them again: the second time, nothing changes.
func checkStepCases(t *testing.T, what string, made func(d impl.Drawing) (impl.Drawing, int64), cases [][2]string) {
	t.Helper()
	for _, c := range cases {
		d, want := draw(c[0]), draw(c[1])
		if !impl.ValidDrawing(d) {
			t.Fatalf("%s is not valid", c[0])
		}
		got, code := made(d)
		checkMade(t, what+" "+c[0], got, code, want, impl.OK)
		got, code = made(got)
		checkMade(t, what+" twice "+c[0], got, code, want, impl.OK)
		checkSteps(t, d)
		checkCleaning(t, d, 0)
	}
}

func TestInsertJunctions(t *testing.T) {
	checkStepCases(t, "InsertJunctions", impl.InsertJunctions, [][2]string{
		{"40x20;0,0 20,0 40,0 40,20 20,20 0,20 20,10;a 0,1,4,5;b 1,2,3,4,6", "40x20;0,0 20,0 40,0 40,20 20,20 0,20 20,10;a 0,1,6,4,5;b 1,2,3,4,6"}, {"10x10;", "10x10;"}, {"10x10;0,0 10,0 5,5", "10x10;0,0 10,0 5,5"}, {"20x20;0,0 20,0 20,20 0,20 10,0;a 0,1,2,3", "20x20;0,0 20,0 20,20 0,20 10,0;a 0,1,2,3"},
		{bricks, "40x30;0,0 20,0 20,10 0,10 40,0 40,10 10,10 10,20 0,20 30,10 30,20 40,20 20,20 20,30 0,30 40,30;a 0,1,2,6,3;b 1,4,5,9,2;c 3,6,7,8;d 6,2,9,10,12,7;e 9,5,11,10;f 8,7,12,13,14;g 12,10,11,15,13"},
		// Several on one edge, whose indices are not in the order in which they lie on it: leftwards, rightwards, downwards, upwards, slanted.
		{"60x20;0,0 60,0 60,10 0,10 30,10 10,10 50,10 20,20 40,20;a 0,1,2,3;b 5,4,7;c 4,6,8", "60x20;0,0 60,0 60,10 0,10 30,10 10,10 50,10 20,20 40,20;a 0,1,2,6,4,5,3;b 5,4,7;c 4,6,8"},
		{"60x20;0,10 60,10 60,20 0,20 30,10 10,10 50,10 20,0 40,0;a 0,1,2,3;b 4,5,7;c 6,4,8", "60x20;0,10 60,10 60,20 0,20 30,10 10,10 50,10 20,0 40,0;a 0,5,4,6,1,2,3;b 4,5,7;c 6,4,8"},
		{"20x60;10,60 10,0 20,0 20,60 10,30 10,50 10,10 0,20 0,40;a 0,1,2,3;b 4,5,8;c 6,4,7", "20x60;10,60 10,0 20,0 20,60 10,30 10,50 10,10 0,20 0,40;a 0,5,4,6,1,2,3;b 4,5,8;c 6,4,7"},
		{"20x60;0,0 10,0 10,60 0,60 10,30 10,10 10,50 20,20 20,40;a 0,1,2,3;b 4,5,7;c 6,4,8", "20x60;0,0 10,0 10,60 0,60 10,30 10,10 10,50 20,20 20,40;a 0,1,5,4,6,2,3;b 4,5,7;c 6,4,8"},
		{"40x40;0,0 40,0 40,40 10,10 30,30 5,30;a 0,1,2;b 3,4,5", "40x40;0,0 40,0 40,40 10,10 30,30 5,30;a 0,1,2,4,3;b 3,4,5"}, {"40x40;0,0 40,0 40,40 30,30 10,10 5,30;a 2,0,1;b 4,3,5", "40x40;0,0 40,0 40,40 30,30 10,10 5,30;a 2,3,4,0,1;b 4,3,5"},
		// On several edges of one face, and one point on the edges of several faces.
		{"60x60;20,20 40,20 40,40 20,40 30,20 35,0 40,30 60,35 30,40 25,60 20,30 0,25 25,0 60,25 35,60 0,35;a 0,1,2,3;b 4,12,5;c 6,13,7;d 8,14,9;e 10,15,11", "60x60;20,20 40,20 40,40 20,40 30,20 35,0 40,30 60,35 30,40 25,60 20,30 0,25 25,0 60,25 35,60 0,35;a 0,4,1,6,2,8,3,10;b 4,12,5;c 6,13,7;d 8,14,9;e 10,15,11"},
		{"20x20;0,0 10,0 10,20 0,20 20,0 20,20 10,10 15,12 12,15;a 0,1,2,3;b 1,4,5,2;c 6,7,8", "20x20;0,0 10,0 10,20 0,20 20,0 20,20 10,10 15,12 12,15;a 0,1,6,2,3;b 1,4,5,2,6;c 6,7,8"}, {"20x40;0,0 10,0 10,20 0,20 10,10 20,10 20,30 10,30;a 0,1,2,3;b 4,5,6,7", "20x40;0,0 10,0 10,20 0,20 10,10 20,10 20,30 10,30;a 0,1,4,2,3;b 4,5,6,7,2"},
		// A junction between points that are straight already.
		{"40x20;0,0 10,0 30,0 40,0 40,20 0,20 20,0 25,10 15,10;a 0,1,2,3,4,5;b 6,7,8", "40x20;0,0 10,0 30,0 40,0 40,20 0,20 20,0 25,10 15,10;a 0,1,6,2,3,4,5;b 6,7,8"},
	})
}

// combs has a face a with some corners, and above it a face b with n more points on the edge between both.
func combs(corners, n int) impl.Drawing {
	lower, upper := []impl.Point{pt(0, 100)}, []impl.Point{pt(0, 100)}
	for k := range corners - 2 {
		lower = append(lower, pt(int64(300*(k+1)/(corners-1)), int64(40+20*(k%2))))
	}
	for k := range n {
		upper = append(upper, pt(int64(10+10*k), 100))
	}
	return drawingOf(append(lower, pt(300, 100)), append(upper, pt(300, 100), pt(150, 200)))
}

// TestInsertJunctionsCountsCorners also cleans: the points would be straight, but they come too late to be dropped.
func TestInsertJunctionsCountsCorners(t *testing.T) {
	for corners := 3; corners <= impl.MaxCorners; corners++ {
		for n := range 22 {
			d := combs(corners, n)
			if !impl.ValidDrawing(d) {
				t.Fatalf("%v is not valid", d)
			}
			got, code := impl.InsertJunctions(d)
			clean, cleanCode := impl.CleanDrawing(d, 0)
			if corners+n > impl.MaxCorners {
				checkMade(t, fmt.Sprint("InsertJunctions ", d), got, code, impl.Drawing{}, impl.ErrState)
				checkMade(t, fmt.Sprint("CleanDrawing ", d), clean, cleanCode, impl.Drawing{}, impl.ErrState)
			} else if len(got.Faces) != 2 || len(got.Faces[0].Ring) != corners+n || code != impl.OK || len(clean.Points) != corners+1 || cleanCode != impl.OK {
				t.Fatalf("InsertJunctions(%v) is %v, %d, and cleaned %v, %d", d, got, code, clean, cleanCode)
			}
			checkSteps(t, d)
		}
	}
}

func TestInsertedJunctionsAreGone(t *testing.T) {
	inserted := 0
	for _, d := range append(goodDrawings(), messyDrawings()...) {
		before, _ := impl.JunctionsOf(d)
		got, code := impl.InsertJunctions(d)
		if code == impl.ErrState {
			continue
		}
		junctions, _ := impl.JunctionsOf(got)
		if len(junctions) > 0 || !slices.Equal(got.Points, d.Points) {
			t.Fatalf("InsertJunctions(%v) is %v", d, got)
		}
		for k := range d.Faces {
			if fanArea(polygonOf(got, k)) != fanArea(polygonOf(d, k)) {
				t.Fatalf("InsertJunctions(%v) changes the area of the face %d", d, k)
			}
		}
		inserted += len(before)
	}
	if inserted < 1000 {
		t.Errorf("only %d junctions are inserted", inserted)
	}
}
