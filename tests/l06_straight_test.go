package tests

import (
	"fmt"
	"slices"
	"testing"

	"loop.example/g00956/impl"
)

func TestStraightPoints(t *testing.T) {
	for _, c := range []struct{ text, want string }{
		{"40x20;0,0 20,0 40,0 40,20 20,20 0,20 20,10;a 0,1,6,4,5;b 1,2,3,4,6", "[6]"}, {"10x10;", "[]"},
		// In one Ring; as its first and its last point; several, in ascending order.
		{"20x20;0,0 10,0 20,0 20,20 0,20;a 0,1,2,3,4", "[1]"}, {"20x20;10,0 20,0 20,20 0,20 0,0;a 0,1,2,3,4", "[0]"}, {"20x20;0,0 20,0 20,20 0,20 0,10;a 0,1,2,3,4", "[4]"}, {"30x30;20,0 30,0 0,30 0,0 10,0;a 3,4,0,1,2", "[0 4]"}, {"30x30;10,0 30,0 0,30 20,0 0,0;a 4,0,3,1,2", "[0 3]"},
		{"40x40;0,0 20,0 40,0 40,20 40,40 20,40 0,40 0,20;a 0,1,2,3,4,5,6,7", "[1 3 5 7]"}, {"40x40;0,0 20,0 40,0 40,20 40,40 20,40 0,40 0,20;a 7,0,1,2,3,4,5,6", "[1 3 5 7]"}, {"30x30;0,0 30,0 30,30 20,20 10,10;a 0,1,2,3,4", "[3 4]"},
		// In several Rings: straight in all of them, in one and a corner of another, in the first or the last one.
		{"20x20;0,0 10,0 20,0 20,20 0,20;a 0,1,2,3,4;b 0,1,2,3", "[1]"}, {"30x20;0,0 20,0 20,20 0,20 20,10 30,10 30,0;a 0,1,4,2,3;b 1,6,5,4", "[]"}, {"30x20;0,0 20,0 20,20 0,20 20,10 30,10 30,0;a 1,6,5,4;b 0,1,4,2,3", "[]"}, {"20x20;0,0 10,0 20,0 20,20 0,20;a 0,1,4;b 0,1,2,3,4", "[]"},
		{"20x20;0,0 10,0 20,0 20,20 0,20;a 0,1,2,3,4;b 0,2,3", "[1]"}, {"20x20;0,0 10,0 20,0 20,20 0,20;a 0,1,2,3,4;b 0,1,4;c 0,1,2,3,4", "[]"}, {"20x20;0,0 10,0 20,0 20,20 0,20;a 0,1,2,3,4;b 1,2,3,0;c 0,1,2,4", "[1]"},
		// In a Ring with three points, in no Ring, on an edge.
		{"20x20;0,0 20,0 0,20 10,0;a 0,1,2", "[]"}, {"20x20;0,0 20,0 0,20 10,0;a 0,3,2", "[]"}, {"20x20;0,0 20,0 0,20 10,0;a 0,3,1,2", "[3]"}, {"20x20;0,0 20,0 0,20 10,0 5,5;a 0,1,2", "[]"}, {"20x20;0,0 10,0 20,0", "[]"},
		// Nearly straight.
		{"20000x20000;0,0 10000,1 20000,2 0,20000;a 0,1,2,3", "[1]"}, {"20000x20000;0,0 10000,1 20000,3 0,20000;a 0,1,2,3", "[]"}, {"20000x20000;0,0 10000,1 20000,1 0,20000;a 0,1,2,3", "[]"}, {"20000x20000;0,0 19999,0 20000,20000 1,1;a 0,1,2,3", "[3]"}, {"20000x20000;0,0 19999,0 20000,19999 1,1;a 0,1,2,3", "[]"},
	} {
		d := draw(c.text)
		if !impl.ValidDrawing(d) {
			t.Fatalf("%s is not valid", c.text)
		}
		straight, code := impl.StraightPoints(d)
		checkList(t, "StraightPoints "+c.text, straight, code, c.want)
		checkSteps(t, d)
	}
}

func TestDropStraight(t *testing.T) {
	checkStepCases(t, "DropStraight", impl.DropStraight, [][2]string{
		{"40x20;0,0 20,0 40,0 40,20 20,20 0,20 20,10;a 0,1,6,4,5;b 1,2,3,4,6", "40x20;0,0 20,0 40,0 40,20 20,20 0,20 20,10;a 0,1,4,5;b 1,2,3,4"}, {"10x10;", "10x10;"}, {"20x20;0,0 10,0 20,0", "20x20;0,0 10,0 20,0"},
		// Down to three points, from the first or the last one on, and in both directions.
		{"20x20;0,0 20,0 0,20 10,0;a 0,3,1,2", "20x20;0,0 20,0 0,20 10,0;a 0,1,2"}, {"30x30;20,0 30,0 0,30 0,0 10,0;a 3,4,0,1,2", "30x30;20,0 30,0 0,30 0,0 10,0;a 3,1,2"}, {"30x30;10,0 30,0 0,30 20,0 0,0;a 0,3,1,2,4", "30x30;10,0 30,0 0,30 20,0 0,0;a 1,2,4"},
		{"30x30;0,0 30,0 30,30 20,20 10,10;a 3,4,0,1,2", "30x30;0,0 30,0 30,30 20,20 10,10;a 0,1,2"}, {"40x40;0,0 20,0 40,0 40,20 40,40 20,40 0,40 0,20;a 7,0,1,2,3,4,5,6", "40x40;0,0 20,0 40,0 40,20 40,40 20,40 0,40 0,20;a 0,2,4,6"},
		// A point stays in all Rings if it is a corner of one, and goes out of all otherwise.
		{"30x20;0,0 20,0 20,20 0,20 20,10 30,10 30,0;a 0,1,4,2,3;b 1,6,5,4", "30x20;0,0 20,0 20,20 0,20 20,10 30,10 30,0;a 0,1,4,2,3;b 1,6,5,4"}, {"20x20;0,0 10,0 20,0 20,20 0,20;a 0,1,2,3,4;b 0,1,2,3;c 1,2,3,4,0", "20x20;0,0 10,0 20,0 20,20 0,20;a 0,2,3,4;b 0,2,3;c 2,3,4,0"},
		{"30x30;0,0 10,0 20,0 30,0 0,30;a 0,1,2,3,4;b 0,2,3,4;c 0,1,4", "30x30;0,0 10,0 20,0 30,0 0,30;a 0,1,3,4;b 0,3,4;c 0,1,4"}, {"30x30;0,0 10,0 20,0 30,0 0,30;a 0,1,2,3,4;b 0,1,2,4", "30x30;0,0 10,0 20,0 30,0 0,30;a 0,2,3,4;b 0,2,4"},
	})
}

// TestDropStraightKeepsPolygons drops from triangles with up to MaxCorners points.
func TestDropStraightKeepsPolygons(t *testing.T) {
	for n := 3; n <= impl.MaxCorners; n++ {
		for k := range n {
			d := renumbered(drawingOf(startAt(strip(n), k)), k)
			got, code := impl.DropStraight(d)
			if len(got.Faces) != 1 || len(got.Faces[0].Ring) != 3 || !slices.Equal(got.Points, d.Points) || code != impl.OK {
				t.Fatalf("DropStraight(%v) is %v, %d", d, got, code)
			}
		}
	}
	dropped := 0
	for _, d := range append(goodDrawings(), messyDrawings()...) {
		got, code := impl.DropStraight(d)
		if !slices.Equal(got.Points, d.Points) || code != impl.OK {
			t.Fatalf("DropStraight(%v) is %v, %d", d, got, code)
		}
		for k := range d.Faces {
			if fanArea(polygonOf(got, k)) != fanArea(polygonOf(d, k)) {
				t.Fatalf("DropStraight(%v) changes the area of the face %d", d, k)
			}
			dropped += len(d.Faces[k].Ring) - len(got.Faces[k].Ring)
		}
	}
	if dropped < 1000 {
		t.Errorf("only %d points are dropped", dropped)
	}
}

func TestDropUnused(t *testing.T) {
	checkStepCases(t, "DropUnused", impl.DropUnused, [][2]string{
		// None, all, and some: at the beginning, between others, and at the end.
		{"10x10;", "10x10;"}, {"10x10;0,0 10,0 10,10", "10x10;"}, {"10x10;5,5", "10x10;"}, {"20x10;0,0 20,0 20,10 0,10;a 0,1,2;b 0,2,3", "20x10;0,0 20,0 20,10 0,10;a 0,1,2;b 0,2,3"}, {"20x20;1,1 0,0 2,2 10,0 3,3 0,10 4,4;a 1,3,5", "20x20;0,0 10,0 0,10;a 0,1,2"},
		{"20x20;0,0 10,0 0,10 4,4 4,5;a 0,1,2", "20x20;0,0 10,0 0,10;a 0,1,2"}, {"20x20;4,4 4,5 0,0 10,0 0,10;a 3,4,2", "20x20;0,0 10,0 0,10;a 1,2,0"}, {"20x20;0,10 4,4 10,0 4,5 0,0;a 4,2,0", "20x20;0,10 10,0 0,0;a 2,1,0"},
		// Several Rings, and a point that only one of them has.
		{"20x10;0,0 5,5 20,0 20,10 6,6 0,10;a 0,2,3;b 0,3,5", "20x10;0,0 20,0 20,10 0,10;a 0,1,2;b 0,2,3"}, {"20x10;0,0 5,5 20,0 20,10 6,6 0,10;a 0,2,3;b 0,4,5", "20x10;0,0 20,0 20,10 6,6 0,10;a 0,1,2;b 0,3,4"}, {"20x20;0,0 20,0 20,20 0,20 10,0 10,10;a 0,1,2,3", "20x20;0,0 20,0 20,20 0,20;a 0,1,2,3"},
	})
	for _, d := range append(goodDrawings(), messyDrawings()...) {
		got, code := impl.DropUnused(d)
		unused, _ := impl.UnusedPoints(d)
		left, _ := impl.UnusedPoints(got)
		if len(got.Points) != len(d.Points)-len(unused) || len(left) > 0 || code != impl.OK {
			t.Fatalf("DropUnused(%v) is %v, %d", d, got, code)
		}
		for k := range d.Faces {
			if fmt.Sprint(polygonOf(got, k)) != fmt.Sprint(polygonOf(d, k)) || got.Faces[k].Name != d.Faces[k].Name {
				t.Fatalf("DropUnused(%v) changes the face %d", d, k)
			}
		}
	}
}
