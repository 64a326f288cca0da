package tests

import (
	"fmt"
	"testing"

	"loop.example/g00956/impl"
)

func checkLoss(t *testing.T, p []impl.Point, kerf, want, wantCode int64) {
	t.Helper()
	got, code := impl.KerfLoss(p, kerf)
	checkNumber(t, fmt.Sprintf("KerfLoss of %.300v and %d", fmt.Sprint(p), kerf), got, code, want, wantCode)
}

func TestKerfLoss(t *testing.T) {
	for _, c := range []struct {
		text       string
		kerf, want int64
	}{
		{"0,0 90,0 90,30 30,30 30,60 0,60", 16, 480}, {"0,0 90,0 90,30 30,30 30,60 0,60", 0, 0}, {"0,0 90,0 90,30 30,30 30,60 0,60", 1, 30}, {"0,0 90,0 90,30 30,30 30,60 0,60", 200, 6000}, {"30,60 0,60 0,0 90,0 90,30 30,30", 16, 480},
		// A border of 3, whose slanted edge is rounded down: below a half, a half, and above it.
		{"0,0 1,0 0,1", 1, 0}, {"0,0 1,0 0,1", 2, 1}, {"0,0 1,0 0,1", 3, 1}, {"0,0 1,0 0,1", 4, 1}, {"0,0 1,0 0,1", 5, 2}, {"0,0 1,0 0,1", 6, 2}, {"0,0 1,0 0,1", 15, 5}, {"0,0 1,0 0,1", 0, 0}, {"0,0 1,0 0,1", 200, 60}, {"0,0 1,0 0,1", 199, 60}, {"0,0 1,0 0,1", 198, 59},
		// Each edge is rounded down alone: 9, 9 and 12.
		{"0,0 9,0 0,9", 10, 30}, {"0,0 9,0 0,9", 1, 3}, {"0,0 20000,0 20000,20000 0,20000", 200, 1600000}, {"0,0 20000,0 20000,20000 0,20000", 1, 8000}, {"0,0 20000,0 0,20000", 200, 1365680},
	} {
		checkLoss(t, poly(c.text), c.kerf, c.want, impl.OK)
	}
	for _, p := range append(goodPolygons(), smallPolygons()[:60]...) {
		for kerf := range int64(impl.MaxKerf + 1) {
			checkLoss(t, p, kerf, kerfLossAsTold(p, kerf), impl.OK)
		}
		for _, kerf := range noKerfs {
			checkLoss(t, p, kerf, 0, impl.ErrRange)
		}
	}
	forBadPolygons(func(_ string, p []impl.Point) {
		for _, kerf := range append([]int64{0, 16, 200}, noKerfs...) {
			checkLoss(t, p, kerf, 0, impl.ErrInvalid)
		}
	})
}

func checkPath(t *testing.T, d impl.Drawing, want, wantCode int64) {
	t.Helper()
	got, code := impl.PathLength(d)
	checkNumber(t, fmt.Sprintf("PathLength of %.300v", fmt.Sprint(d)), got, code, want, wantCode)
}

func TestPathLength(t *testing.T) {
	for _, c := range []struct {
		text string
		want int64
	}{
		// An edge that two faces have counts once, in opposite directions, in the same one, and for more faces.
		{"20x10;0,0 20,0 20,10 0,10;a 0,1,2;b 0,2,3", 82}, {"20x10;0,0 20,0 20,10 0,10;a 0,1,2", 52}, {"20x10;0,0 20,0 20,10 0,10;a 0,1,2,3", 60}, {"20x10;0,0 20,0 20,10 0,10;a 0,1,2,3;b 0,1,2,3;c 1,2,3,0", 60}, {"20x10;0,0 20,0 20,10 0,10;a 0,1,2;b 0,1,2,3", 82}, {"40x20;0,0 20,0 40,0 40,20 20,20 0,20;a 0,1,4,5;b 1,2,3,4", 140},
		// The whole edge is rounded down: 22 and 22 for two halves of 44.7, and 44 for both in one.
		{"40x20;0,0 40,0 40,20 20,10;a 0,1,2,3", 104}, {"40x20;0,0 40,0 40,20;a 0,1,2", 104}, {"10x10;0,0 1,0 0,1;a 0,1,2", 3}, {"10x10;0,0 1,0 1,1 0,1;a 0,1,2;b 0,2,3", 5},
		// Edges that lie on one another, but have other ends, count each.
		{"20x20;0,0 10,0 10,10 0,10 10,5 20,5;a 0,1,2,3;b 1,5,4", 66}, {"20x20;0,0 10,0 10,10 0,10 10,5 20,5 20,15 10,15;a 0,1,2,3;b 4,5,6,7", 80},
		// Without faces, and points that no face has.
		{"10x10;", 0}, {"10x10;0,0 10,0 10,10 0,10", 0}, {"20x20;1,1 0,0 2,2 10,0 3,3 0,10 4,4;a 1,3,5", 34}, {"20000x20000;0,0 20000,0 20000,20000 0,20000;a 0,1,2,3", 80000}, {"20000x20000;0,0 20000,0 20000,20000 0,20000;a 0,1,2;b 0,2,3", 108284},
	} {
		checkPath(t, draw(c.text), c.want, impl.OK)
	}
	for _, d := range goodDrawings() {
		checkPath(t, d, pathAsTold(d), impl.OK)
	}
	forBadDrawings(func(_ string, d impl.Drawing) { checkPath(t, d, 0, impl.ErrInvalid) })
}
