package tests

import (
	"slices"
	"testing"

	"loop.example/g00956/impl"
)

func TestInside(t *testing.T) {
	for _, c := range []struct {
		text                    string
		inside, onEdge, outside string
	}{
		{"0,0 90,0 90,30 30,30 30,60 0,60", "10,50 1,1 29,59 89,29 29,30 30,29 31,29 10,30", "30,40 90,30 30,30 0,0 0,60 45,0 60,30 0,30 15,60 90,15",
			"50,50 100,10 31,31 30,61 91,30 91,0 0,61 90,31 31,60 20000,30 20000,0 20000,60 20000,20000"},
		// A notch, whose lowest point is at the height of others, and one edge above the other.
		{"5,5 45,5 45,35 25,15 5,35", "25,14 6,33 44,33 6,15 24,15 26,15 24,6 25,6", "25,15 5,5 45,35 24,16 26,16 25,5 5,15 45,15",
			"25,16 25,35 0,15 46,15 4,15 6,35 44,35 0,5 4,5 46,5 0,35 46,35 60,35 25,4 25,36"},
		// A star with corners at the height of other corners.
		{"20,0 24,16 40,20 24,24 20,40 16,24 0,20 16,16", "20,20 1,20 39,20 16,20 24,20 20,1 20,39 17,16 23,16 17,24 23,24", "20,0 24,16 40,20 0,20 20,40 16,24 28,17 22,8",
			"41,20 15,16 25,16 25,24 15,24 0,16 40,16 0,0 40,40 0,40 40,0 19,40 21,40 19,0 21,0 0,24 40,24"},
		// A spiral with horizontal edges at the height of the point, to both sides.
		{"0,0 50,0 50,50 10,50 10,20 30,20 30,30 20,30 20,40 40,40 40,10 0,10", "5,5 45,45 45,10 45,40 45,20 15,30 15,40 15,21 25,25 5,9 41,10 11,30 19,40 29,21", "10,20 20,20 30,20 25,30 30,40 20,10 0,10 40,25 10,40 30,25 20,35 0,5",
			"5,20 0,20 5,30 35,20 35,30 25,35 25,31 5,40 5,50 21,31 39,39 39,11 5,11 51,10 51,20 51,30 51,40 35,15 1,50"},
		// Points on a straight edge are on an edge, and corners that do not turn pass a height once.
		{"0,0 4,0 8,0 8,4 8,8 4,8 0,8 0,4", "4,4 1,4 7,4 4,1 4,7", "4,0 8,4 4,8 0,4 2,0 6,0 8,6 0,6", "9,4 9,0 9,8 4,9 12,4 20000,4"},
		{"0,4 9,0 9,8", "1,4 8,4 8,1 8,7", "0,4 9,4 9,0 9,8", "0,0 0,8 10,4 0,3 0,5 20000,4 20000,0 8,0 8,8"},
		{"9,4 0,8 0,0", "8,4 1,4 1,1 1,7", "9,4 0,4 0,0 0,8", "10,4 9,0 9,8 9,3 9,5 20000,4 1,0 1,8"},
		{"0,0 20000,0 20000,20000 0,20000", "1,1 19999,19999 10000,1 1,19999", "0,0 20000,20000 0,20000 20000,0 20000,1 0,19999 7,0", ""},
		{"0,0 20000,19999 20000,20000", "", "0,0 20000,20000 20000,19999 10000,10000 19999,19999", "19999,19998 0,1 1,0 10000,9999 19999,20000 20000,19998 20000,0 0,20000"},
	} {
		p := poly(c.text)
		for k := range p {
			q := slices.Concat(p[k:], p[:k])
			checkInside(t, q, poly(c.inside), 1)
			checkInside(t, q, poly(c.onEdge), 0)
			checkInside(t, q, poly(c.outside), -1)
		}
	}
}

func checkInside(t *testing.T, p, points []impl.Point, want int64) {
	t.Helper()
	for _, q := range points {
		if got, code := impl.Inside(p, q); got != want || code != impl.OK {
			t.Errorf("Inside(%v, %v) is %d, %d, want %d", p, q, got, code, want)
		}
	}
}

func TestInsideRefusesPoints(t *testing.T) {
	for _, p := range goodPolygons() {
		for _, q := range badPoints() {
			if got, code := impl.Inside(p, q); got != 0 || code != impl.ErrInvalid {
				t.Errorf("Inside(%v, %v) is %d, %d", p, q, got, code)
			}
		}
	}
}

// placeAsTold counts the edges that a way from q meets which is so nearly horizontal that it meets no corner of a small polygon.
func placeAsTold(p []impl.Point, q impl.Point) int64 {
	far := pt(q.X+100000, q.Y+100)
	met := 0
	for k, a := range p {
		b := p[(k+1)%len(p)]
		if onLattice(a, b, q) {
			return 0
		}
		if _, crosses := meeting(q, far, a, b); crosses {
			met++
		}
	}
	return int64(met%2*2 - 1)
}

func TestAllPlacesOfSmallPolygons(t *testing.T) {
	for _, p := range smallPolygons() {
		for _, q := range grid(4) {
			if got, code := impl.Inside(p, q); got != placeAsTold(p, q) || code != impl.OK {
				t.Fatalf("Inside(%v, %v) is %d, %d", p, q, got, code)
			}
		}
	}
	for _, p := range goodPolygons() {
		if _, high, _ := impl.BoundsOf(p); high.X > 60 || high.Y > 100 {
			continue
		}
		for x := range int64(62) {
			for y := range int64(62) {
				if got, code := impl.Inside(p, pt(x, y)); got != placeAsTold(p, pt(x, y)) || code != impl.OK {
					t.Fatalf("Inside(%v, %d, %d) is %d, %d", p, x, y, got, code)
				}
			}
		}
	}
}

// TestPointsMakeTheArea counts points with integer coordinates: twice the area is twice those inside, plus those on an edge, less 2.
func TestPointsMakeTheArea(t *testing.T) {
	for _, p := range append(goodPolygons(), smallPolygons()...) {
		low, high, _ := impl.BoundsOf(p)
		if high.X-low.X > 200 || high.Y-low.Y > 200 {
			continue
		}
		var sum int64 = -2
		for x := low.X; x <= high.X; x++ {
			for y := low.Y; y <= high.Y; y++ {
				// 1 inside, 0 on an edge and -1 outside weigh 2, 1 and 0.
				place, _ := impl.Inside(p, pt(x, y))
				sum += place + 1
			}
		}
		if area, _ := impl.AreaTwice(p); area != sum {
			t.Errorf("%v has the doubled area %d, but its points make %d", p, area, sum)
		}
	}
}
