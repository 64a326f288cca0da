package tests

import (
	"slices"
	"testing"

	"loop.example/g00956/impl"
)

func TestHullOf(t *testing.T) {
	for _, c := range []struct{ text, want string }{
		{"0,0 10,0 10,4 4,4 4,10 0,10", "0,0 10,0 10,4 4,10 0,10"}, {block, block}, {"0,0 9,0 0,9", "0,0 9,0 0,9"}, {"0,0 0,9 9,0", "0,0 9,0 0,9"}, {"9,9 0,9 9,0", "9,0 9,9 0,9"}, {"7,3 12,5 9,11", "7,3 12,5 9,11"},
		// The first point is the lowest one, and the one to the left of several.
		{"10,10 0,10 0,0 10,0", block}, {"5,7 0,3 9,3 2,9", "0,3 9,3 5,7 2,9"}, {"0,9 5,0 9,9", "5,0 9,9 0,9"}, {"9,1 0,9 9,9 0,1", "0,1 9,1 9,9 0,9"}, {"0,5 7,0 8,9 3,0", "3,0 7,0 8,9 0,5"}, {"0,5 9,4 5,9", "9,4 5,9 0,5"},
		// Points inside, and on each edge of the hull.
		{"5,5 10,10 0,0 3,4 10,0 7,7 0,10", block}, {"0,0 4,0 10,0 10,3 10,10 6,10 0,10 0,7", block}, {"0,0 5,0 10,0 10,5 10,10 5,10 0,10 0,5 5,5", block}, {"3,0 6,0 9,0 0,9 0,0 0,3 3,6 6,3", "0,0 9,0 0,9"},
		{"4,2 8,4 2,1 0,0 6,3 6,6", "0,0 8,4 6,6"}, {"0,0 9,9 3,3 8,1 6,6", "0,0 8,1 9,9"}, {"0,0 9,9 3,3 1,8 6,6", "0,0 9,9 1,8"}, {"9,0 6,3 3,6 0,9 9,9", "9,0 9,9 0,9"},
		{star, "20,0 40,20 20,40 0,20"}, {gate, plate}, {hook, "0,0 40,0 40,10 10,40 0,40"}, {fork, "0,0 20,0 20,20 0,20"},
		// Points that are met several times: a corner, all corners, points inside and on edges.
		{"0,0 0,0 9,0 0,9", "0,0 9,0 0,9"}, {"9,0 0,0 9,0 0,9 9,0", "0,0 9,0 0,9"}, {"0,0 9,0 0,9 0,0 9,0 0,9 0,0 9,0 0,9", "0,0 9,0 0,9"}, {"0,9 0,9 0,9 9,9 9,9 9,9 5,0", "5,0 9,9 0,9"}, {"0,0 9,0 0,9 3,3 3,3 4,0 4,0", "0,0 9,0 0,9"},
		// As many corners as points, and the limits of the coordinates.
		{"4,0 8,0 12,4 12,8 8,12 4,12 0,8 0,4", "4,0 8,0 12,4 12,8 8,12 4,12 0,8 0,4"}, {"20000,20000 0,0 20000,0 0,20000 10000,10000", "0,0 20000,0 20000,20000 0,20000"}, {"0,0 20000,19999 20000,20000 10000,10000", "0,0 20000,19999 20000,20000"},
		{"0,0 20000,20000 10000,9999", "0,0 10000,9999 20000,20000"}, {"0,0 20000,20000 10000,10001 1,1 19999,19999", "0,0 20000,20000 10000,10001"}, {"19999,19999 20000,19999 19999,20000 20000,20000", "19999,19999 20000,19999 20000,20000 19999,20000"},
	} {
		points := poly(c.text)
		for k := range points {
			for _, list := range [][]impl.Point{startAt(points, k), mirrored(startAt(points, k))} {
				if got, code := impl.HullOf(list); !slices.Equal(got, poly(c.want)) || code != impl.OK {
					t.Errorf("HullOf(%v) is %v, %d, want %s", list, got, code, c.want)
				}
			}
		}
	}
}

func TestHullOfRefuses(t *testing.T) {
	for _, c := range []struct {
		text string
		code int64
	}{
		{"", impl.ErrRange}, {"3,3", impl.ErrRange}, {"0,0 9,0", impl.ErrRange}, {"3,3 3,3", impl.ErrRange},
		// On a line: equal, horizontal, upright, slanted, in any order, with two different points only.
		{"3,3 3,3 3,3", impl.ErrState}, {"1,1 2,2 3,3", impl.ErrState}, {"0,0 4,0 9,0", impl.ErrState}, {"9,0 0,0 4,0 9,0", impl.ErrState}, {"3,9 3,0 3,4", impl.ErrState}, {"0,9 9,0 3,6 5,4", impl.ErrState},
		{"3,3 3,3 9,4", impl.ErrState}, {"9,4 3,3 9,4 3,3", impl.ErrState}, {"0,0 20000,20000 1,1", impl.ErrState}, {"0,0 0,0 0,0 0,0 0,0", impl.ErrState}, {"20000,20000 20000,20000 20000,20000", impl.ErrState}, {"0,20000 20000,0 10000,10000 7,19993", impl.ErrState},
		// A point that is not valid comes first.
		{"-1,0", impl.ErrInvalid}, {"0,0 9,20001", impl.ErrInvalid}, {"1,1 2,2 -1,-1", impl.ErrInvalid}, {"1,1 2,2 20001,20001 3,3", impl.ErrInvalid}, {"0,0 9,0 0,9 3,-1", impl.ErrInvalid},
	} {
		points := poly(c.text)
		if got, code := impl.HullOf(points); len(got) != 0 || code != c.code {
			t.Errorf("HullOf(%s) is %v, %d, want %d", c.text, got, code, c.code)
		}
	}
	for _, points := range [][]impl.Point{nil, {}} {
		if got, code := impl.HullOf(points); len(got) != 0 || code != impl.ErrRange {
			t.Errorf("HullOf(%v) is %v, %d", points, got, code)
		}
	}
}

func TestHullOfCountsItsPoints(t *testing.T) {
	var bow, line []impl.Point
	for k := range int64(impl.MaxCorners + 3) {
		bow = append(bow, pt(k, k*k))
		line = append(line, pt(k, 3*k))
	}
	for n := range bow {
		want, onLine := int64(impl.OK), int64(impl.ErrState)
		if n < 3 || n > impl.MaxCorners {
			want, onLine = impl.ErrRange, impl.ErrRange
		}
		got, code := impl.HullOf(bow[:n])
		if code != want || code == impl.OK && !slices.Equal(got, bow[:n]) || code != impl.OK && len(got) != 0 {
			t.Errorf("HullOf(%v) is %v, %d, want %d", bow[:n], got, code, want)
		}
		if got, code := impl.HullOf(line[:n]); len(got) != 0 || code != onLine {
			t.Errorf("HullOf(%v) is %v, %d, want %d", line[:n], got, code, onLine)
		}
		for _, bad := range badPoints() {
			for _, points := range [][]impl.Point{append(slices.Clone(bow[:n]), bad), slices.Insert(slices.Clone(line[:n]), 0, bad)} {
				if got, code := impl.HullOf(points); len(got) != 0 || code != impl.ErrInvalid {
					t.Errorf("HullOf(%v) is %v, %d", points, got, code)
				}
			}
		}
	}
	if got, code := impl.HullOf(make([]impl.Point, 100000)); len(got) != 0 || code != impl.ErrRange {
		t.Errorf("HullOf of very many points is %v, %d", got, code)
	}
	if got, code := impl.HullOf(append(make([]impl.Point, 100000), pt(-1, 0))); len(got) != 0 || code != impl.ErrInvalid {
		t.Errorf("HullOf of very many points, of which the last one is not valid, is %v, %d", got, code)
	}
}

// isHullAsTold has the properties that only one list has: its corners are some of the points, no one twice, it turns to the left at each of them, no point lies to the right of it, and it begins with the lowest one.
func isHullAsTold(points, hull []impl.Point) bool {
	n := len(hull)
	for k, a := range hull {
		b, c := hull[(k+1)%n], hull[(k+2)%n]
		if !slices.Contains(points, a) || slices.Index(hull, a) != k || product(a, b, b, c) <= 0 {
			return false
		}
		for _, p := range points {
			if product(a, b, a, p) < 0 || p.Y < hull[0].Y || p.Y == hull[0].Y && p.X < hull[0].X {
				return false
			}
		}
	}
	return n >= 3
}

func checkHull(t *testing.T, points []impl.Point) {
	t.Helper()
	line := true
	for _, p := range points {
		for _, q := range points {
			line = line && product(points[0], p, points[0], q) == 0
		}
	}
	got, code := impl.HullOf(points)
	if line && (len(got) != 0 || code != impl.ErrState) || !line && (!isHullAsTold(points, got) || code != impl.OK) {
		t.Fatalf("HullOf(%v) is %v, %d", points, got, code)
	}
}

func TestAllHulls(t *testing.T) {
	for n := 3; n <= 5; n++ {
		forLists(grid(3), n, func(points []impl.Point) { checkHull(t, points) })
	}
	forLists(grid(4), 4, func(points []impl.Point) { checkHull(t, points) })
	forLists(farPoints, 4, func(points []impl.Point) { checkHull(t, points) })
	for _, p := range goodPolygons() {
		checkHull(t, p)
		checkHull(t, mirrored(p))
		if hull, _ := impl.HullOf(p); !impl.IsConvex(hull) {
			t.Errorf("HullOf(%v) is %v", p, hull)
		}
	}
	all := grid(5)
	for seed := range 2000 {
		points := make([]impl.Point, 3+seed%22)
		for k := range points {
			points[k] = all[(seed*(k+1)+seed/25*k*k+7*k)%len(all)]
		}
		checkHull(t, points)
	}
}
