package tests

import (
	"fmt"
	"math"
	"math/big"
	"slices"
	"strings"
	"sync"
	"testing"

	"loop.example/g00956/impl"
)

// poly returns the points of a text, which need not be a valid polygon.
func poly(text string) []impl.Point {
	var points []impl.Point
	for _, word := range strings.Fields(text) {
		var p impl.Point
		if n, err := fmt.Sscanf(word, "%d,%d", &p.X, &p.Y); n != 2 || err != nil {
			panic(text)
		}
		points = append(points, p)
	}
	return points
}

// saw returns a polygon with n points whose upper border goes up and down.
func saw(n int) []impl.Point {
	points := []impl.Point{pt(0, 0), pt(100, 0)}
	for k := len(points); k < n; k++ {
		points = append(points, pt(int64(100-4*(k-2)), int64(50+20*(k%2))))
	}
	return points
}

// strip returns a triangle with n points, of which all but three lie within its lowest edge.
func strip(n int) []impl.Point {
	var points []impl.Point
	for k := range n - 1 {
		points = append(points, pt(int64(10+3*k), 5))
	}
	return append(points, pt(10, 40))
}

// goodTexts are valid polygons.
var goodTexts = []string{
	"0,0 9,0 0,9", "0,0 9,0 9,9", "0,0 1,0 0,1", "5,5 9,5 9,9 5,9", "0,0 9,0 9,4 0,4", "0,0 90,0 90,30 30,30 30,60 0,60", "7,3 12,5 9,11",
	// Points on a straight edge: one, several, on a slanted edge, as the first and as the last point.
	"0,0 4,0 9,0 0,9", "0,0 1,0 2,0 8,0 9,0 9,9 0,9", "0,0 9,0 6,3 3,6 0,9", "4,0 9,0 0,8 0,0", "0,0 9,0 0,9 0,5", "0,0 4,0 8,0 8,4 8,8 4,8 0,8 0,4",
	// Concave ones: a notch, a hook, a spiral, a star and a cross; and ones that are symmetric.
	"0,0 20,0 20,20 10,3 0,20", "0,0 10,0 10,2 2,2 2,8 10,8 10,10 0,10", "0,0 50,0 50,50 10,50 10,20 30,20 30,30 20,30 20,40 40,40 40,10 0,10",
	"20,0 24,16 40,20 24,24 20,40 16,24 0,20 16,16", "3,0 6,0 6,3 9,3 9,6 6,6 6,9 3,9 3,6 0,6 0,3 3,3", "0,0 5,0 8,3 3,3", "0,0 8,0 4,9", "0,4 9,0 9,8", "0,0 4,1 5,5 1,4",
	"5,0 10,5 5,10 0,5", "5,0 10,7 5,14 0,7", "2,0 4,0 4,1 6,1 6,4 5,4 5,6 3,6 3,5 0,5 0,2 2,2",
	// The limits of the coordinates.
	"0,0 20000,0 20000,20000 0,20000", "0,0 20000,0 0,20000", "20000,0 20000,20000 0,20000", "19999,19999 20000,19999 19999,20000", "0,0 20000,19999 20000,20000", "0,0 20000,20000 0,1",
	"0,0 20000,0 10000,1 20000,20000 10001,9999 0,20000 1,10000", "20000,0 20000,1 0,20000 0,19999", "0,19999 1,19999 1,20000 0,20000", "12345,6789 20000,19 777,20000",
}

// goodPolygons are valid polygons of all lengths.
func goodPolygons() [][]impl.Point {
	var all [][]impl.Point
	for _, text := range goodTexts {
		all = append(all, poly(text))
	}
	for n := 3; n <= impl.MaxCorners; n++ {
		all = append(all, strip(n), saw(n))
	}
	return all
}

// badPolygons are lists of points that are no valid polygon, with the reason.
var badPolygons = []struct{ reason, text string }{
	{"no point", ""}, {"one point", "3,3"}, {"two points", "0,0 9,0"},
	{"equal points that follow one another", "0,0 9,0 9,0 0,9"}, {"equal points at the beginning", "0,0 0,0 9,0 0,9"}, {"equal points at the end", "0,0 9,0 0,9 0,9"},
	{"the last point is the first one", "0,0 9,0 0,9 0,0"}, {"the last point is the first one", "0,0 9,0 9,9 0,0"}, {"one point three times", "4,4 4,4 4,4"}, {"one point four times", "4,4 4,4 4,4 4,4"},
	{"a point goes back on the edge before it", "0,0 9,0 4,0 0,9"}, {"a point goes back to the point before the last", "0,0 9,0 9,9 9,0 0,9"}, {"a point goes back beyond the edge before it", "2,0 9,0 0,0 0,9"},
	{"the last point goes back on the edge before it", "0,0 9,0 9,9 0,9 5,9 0,20"}, {"the first point goes back on the last edge", "9,0 4,0 9,9 0,9 0,0"}, {"the last edge goes back on the first one", "0,0 9,0 9,9 4,0"},
	{"the last edge goes back on the first one", "0,0 4,0 9,9 9,0"}, {"a slanted edge goes back", "0,0 9,0 9,9 6,6 8,8 0,9"}, {"two points in turn", "0,0 9,9 0,0 9,9"}, {"an edge goes back and forth", "0,0 4,0 9,0 2,0 0,9"},
	{"edges cross", "0,0 9,9 9,0 0,9"}, {"edges cross", "0,0 9,0 0,9 9,9"}, {"edges cross, with a positive area", "0,0 20,0 20,20 10,20 12,25 14,15 0,20"}, {"a corner on the first edge", "0,0 9,0 9,9 4,9 4,0 2,5"},
	{"a loop", "0,0 30,0 30,10 10,10 10,30 20,30 20,5 0,5"}, {"a star of five edges that goes around twice", "10,0 16,19 0,7 20,7 4,19"},
	{"a corner on another edge", "0,0 20,0 20,20 10,0 0,20"}, {"a corner on another edge", "0,0 9,0 9,9 5,9 5,0 4,9 0,9"}, {"a corner on the last edge", "0,0 9,0 0,4 9,9 0,9"}, {"a corner on a slanted edge", "0,0 20,20 20,30 10,10 0,30"},
	{"a corner that is met twice", "0,0 10,0 5,5 10,10 0,10 5,5"}, {"a corner that is met twice", "0,0 9,0 9,5 5,5 9,9 5,9 5,5 0,5"}, {"the first corner is met twice", "5,5 10,0 10,10 5,5 0,10 0,0"},
	{"edges on one line that overlap", "0,0 10,0 10,5 8,5 8,0 2,0 2,5 0,5"}, {"edges on one line that touch", "0,0 4,0 4,4 8,4 8,8 4,8 4,4 0,4"}, {"the same edge twice", "0,0 9,0 9,9 5,9 5,5 7,5 5,5 5,9 0,9"},
	{"to the right", "0,0 0,9 9,0"}, {"to the right", "0,0 0,9 9,9 9,0"}, {"to the right with a straight point", "0,0 0,5 0,9 9,0"}, {"to the right and concave", "0,60 30,60 30,30 90,30 90,0 0,0"},
	{"no area", "0,0 4,0 9,0"}, {"no area", "9,9 5,5 0,0"}, {"no area", "3,0 3,9 3,4"}, {"no area", "0,0 4,2 8,4 6,3"}, {"no area", "0,0 9,0 9,9 9,0"}, {"no area in all of both loops", "0,0 5,5 10,0 10,10 5,5 0,10"},
}

func forBadPolygons(check func(reason string, p []impl.Point)) {
	for _, bad := range badPolygons {
		check(bad.reason, poly(bad.text))
	}
	check("nil", nil)
	check("an empty list", []impl.Point{})
	for _, n := range []int{impl.MaxCorners + 1, impl.MaxCorners + 2, 2 * impl.MaxCorners} {
		check("too many points on a straight edge", strip(n))
	}
	check("one corner too many", saw(impl.MaxCorners+1))
	check("very many points", make([]impl.Point, 100000))
	for place := range 4 {
		for _, p := range badPoints() {
			square := poly("5,5 9,5 9,9 5,9")
			square[place] = p
			check("a point that is not valid", square)
		}
	}
}

func TestMaxCorners(t *testing.T) {
	if impl.MaxCorners != 24 {
		t.Errorf("MaxCorners is %d", impl.MaxCorners)
	}
}

func TestValidPolygon(t *testing.T) {
	for _, p := range goodPolygons() {
		for k := range p {
			if q := slices.Concat(p[k:], p[:k]); !impl.ValidPolygon(q) {
				t.Errorf("%v is valid", q)
			}
			if q := mirrored(slices.Concat(p[k:], p[:k])); impl.ValidPolygon(q) {
				t.Errorf("%v goes around to the right", q)
			}
		}
	}
	forBadPolygons(func(reason string, p []impl.Point) {
		if impl.ValidPolygon(p) {
			t.Errorf("%v is valid: %s", p, reason)
		}
	})
}

// mirrored returns the points in reverse order.
func mirrored(p []impl.Point) []impl.Point {
	q := slices.Clone(p)
	slices.Reverse(q)
	return q
}

// TestBadPolygonsStayBad puts every bad polygon at every start.
func TestBadPolygonsStayBad(t *testing.T) {
	for _, bad := range badPolygons {
		p := poly(bad.text)
		for k := range p {
			if q := slices.Concat(p[k:], p[:k]); impl.ValidPolygon(q) {
				t.Errorf("%v is valid: %s", q, bad.reason)
			}
		}
	}
}

// validAsTold follows the words of the document, with computations of the tests' own.
func validAsTold(p []impl.Point) bool {
	n := len(p)
	if n < 3 || n > 24 {
		return false
	}
	for k := range n {
		a, b, c := p[k], p[(k+1)%n], p[(k+2)%n]
		if a == b || onLattice(a, b, c) || onLattice(b, c, a) {
			return false
		}
		for m := range n {
			follows := m == k || m == (k+1)%n || k == (m+1)%n
			if touches, _ := meeting(p[k], p[(k+1)%n], p[m], p[(m+1)%n]); touches && !follows {
				return false
			}
		}
	}
	return fanArea(p) > 0
}

// fanArea is the doubled area of the triangles that the edges make with the first point.
func fanArea(p []impl.Point) int64 {
	var sum int64
	for k := 2; k < len(p); k++ {
		sum += product(p[0], p[k-1], p[0], p[k])
	}
	return sum
}

// forLists calls check with all lists of n of some points; it must not keep them.
func forLists(points []impl.Point, n int, check func(p []impl.Point)) {
	list := make([]impl.Point, n)
	var choose func(k int)
	choose = func(k int) {
		if k == n {
			check(list)
			return
		}
		for _, list[k] = range points {
			choose(k + 1)
		}
	}
	choose(0)
}

// smallPolygons are all polygons with 3 to 6 points on a small grid, with every start; the tests must not change them.
var smallPolygons = sync.OnceValue(func() [][]impl.Point {
	var all [][]impl.Point
	for n := 3; n <= 6; n++ {
		forLists(grid(3), n, func(p []impl.Point) {
			if validAsTold(p) {
				all = append(all, slices.Clone(p))
			}
		})
	}
	return all
})

func TestAllSmallListsAreValidAsTold(t *testing.T) {
	triangles := 0
	for n := range 6 {
		forLists(grid(3), n, func(p []impl.Point) {
			got, want := impl.ValidPolygon(p), validAsTold(p)
			if got != want {
				t.Fatalf("ValidPolygon(%v) is %v", p, got)
			}
			if got && n == 3 {
				triangles++
			}
		})
	}
	// Of the 84 triples of points, 8 lie on a line; each triangle has three starts.
	if triangles != 76*3 {
		t.Errorf("%d triangles are valid", triangles)
	}
	forLists(farPoints, 4, func(p []impl.Point) {
		if got, want := impl.ValidPolygon(p), validAsTold(p); got != want {
			t.Fatalf("ValidPolygon(%v) is %v", p, got)
		}
	})
}

func TestSamePolygon(t *testing.T) {
	all := goodPolygons()
	for i, p := range all {
		for k := range p {
			q := slices.Concat(p[k:], p[:k])
			if !impl.SamePolygon(p, q) || !impl.SamePolygon(q, p) {
				t.Errorf("%v is the same polygon as %v", q, p)
			}
			if r := mirrored(q); impl.SamePolygon(p, r) || impl.SamePolygon(r, p) || impl.SamePolygon(r, r) {
				t.Errorf("%v goes in another direction than %v", r, p)
			}
		}
		for k, q := range all {
			// The saw and the strip with 3 points are triangles of their own.
			if got := impl.SamePolygon(p, q); got != (i == k) {
				t.Errorf("SamePolygon(%v, %v) is %v", p, q, got)
			}
		}
	}
}

func TestSamePolygonNeedsAllPoints(t *testing.T) {
	for _, c := range [][2]string{
		{"0,0 4,0 9,0 0,9", "0,0 9,0 0,9"}, {"0,0 4,0 9,0 0,9", "0,0 5,0 9,0 0,9"}, {"0,0 9,0 0,9", "1,0 9,0 0,9"}, {"0,0 9,0 0,9", "0,0 9,0 0,8"}, {"0,0 9,0 0,9", "1,0 10,0 1,9"},
		{"0,0 20,0 20,20 10,3 0,20", "0,0 20,0 20,20 10,4 0,20"}, {"0,0 9,0 9,9", "0,0 9,9 0,9"}, {"5,5 9,5 9,9 5,9", "6,5 9,5 9,9 5,9"},
	} {
		a, b := poly(c[0]), poly(c[1])
		if impl.SamePolygon(a, b) || impl.SamePolygon(b, a) {
			t.Errorf("%v and %v are the same polygon", a, b)
		}
	}
}

func TestSamePolygonNeedsValidOnes(t *testing.T) {
	good := poly("5,5 9,5 9,9 5,9")
	forBadPolygons(func(reason string, p []impl.Point) {
		if impl.SamePolygon(p, p) || impl.SamePolygon(p, good) || impl.SamePolygon(good, p) {
			t.Errorf("%v is the same polygon as another one or as itself: %s", p, reason)
		}
	})
}

func TestAreaAndPerimeter(t *testing.T) {
	for _, c := range []struct {
		text            string
		area, perimeter int64
	}{
		{"0,0 9,0 0,9", 81, 9 + 12 + 9}, {"0,0 4,0 9,0 0,9", 81, 30}, {"0,0 9,0 6,3 3,6 0,9", 81, 9 + 4 + 4 + 4 + 9}, {"0,0 1,0 0,1", 1, 3}, {"5,5 9,5 9,9 5,9", 32, 16}, {"7,3 12,5 9,11", 36, 5 + 6 + 8},
		{"0,0 90,0 90,30 30,30 30,60 0,60", 7200, 300}, {"0,0 20,0 20,20 10,3 0,20", 460, 20 + 20 + 19 + 19 + 20}, {"5,0 10,5 5,10 0,5", 100, 28}, {"0,0 3,0 3,4", 12, 12}, {"0,0 4,1 5,5 1,4", 30, 16},
		{"0,0 20000,0 20000,20000 0,20000", 800000000, 80000}, {"0,0 20000,0 0,20000", 400000000, 68284}, {"0,0 20000,20000 0,1", 20000, 28284 + 28283 + 1}, {"19999,19999 20000,19999 19999,20000", 1, 3},
	} {
		p := poly(c.text)
		for k := range p {
			q := slices.Concat(p[k:], p[:k])
			if got, code := impl.AreaTwice(q); got != c.area || code != impl.OK {
				t.Errorf("AreaTwice(%v) is %d, %d, want %d", q, got, code, c.area)
			}
			if got, code := impl.PerimeterOf(q); got != c.perimeter || code != impl.OK {
				t.Errorf("PerimeterOf(%v) is %d, %d, want %d", q, got, code, c.perimeter)
			}
		}
	}
}

// distanceAsTold is the root of the square of a distance, rounded down.
func distanceAsTold(a, b impl.Point) int64 {
	dx, dy := b.X-a.X, b.Y-a.Y
	return new(big.Int).Sqrt(big.NewInt(dx*dx + dy*dy)).Int64()
}

func TestAllAreasAndPerimeters(t *testing.T) {
	for _, p := range append(goodPolygons(), smallPolygons()...) {
		if got, code := impl.AreaTwice(p); got != fanArea(p) || code != impl.OK {
			t.Errorf("AreaTwice(%v) is %d, %d, want %d", p, got, code, fanArea(p))
		}
		var want int64
		for k, a := range p {
			want += distanceAsTold(a, p[(k+1)%len(p)])
		}
		if got, code := impl.PerimeterOf(p); got != want || code != impl.OK {
			t.Errorf("PerimeterOf(%v) is %d, %d, want %d", p, got, code, want)
		}
	}
}

func TestBoundsOf(t *testing.T) {
	for _, c := range []struct {
		text      string
		low, high impl.Point
	}{
		{"0,0 9,0 0,9", pt(0, 0), pt(9, 9)}, {"7,3 12,5 9,11", pt(7, 3), pt(12, 11)}, {"5,0 10,7 5,14 0,7", pt(0, 0), pt(10, 14)}, {"0,0 90,0 90,30 30,30 30,60 0,60", pt(0, 0), pt(90, 60)},
		{"12345,6789 20000,19 777,20000", pt(777, 19), pt(20000, 20000)}, {"0,0 20000,0 20000,20000 0,20000", pt(0, 0), pt(most, most)}, {"19999,19999 20000,19999 19999,20000", pt(most-1, most-1), pt(most, most)},
		{"0,4 9,0 9,8", pt(0, 0), pt(9, 8)}, {"20,0 24,16 40,20 24,24 20,40 16,24 0,20 16,16", pt(0, 0), pt(40, 40)},
	} {
		p := poly(c.text)
		for k := range p {
			if low, high, code := impl.BoundsOf(slices.Concat(p[k:], p[:k])); low != c.low || high != c.high || code != impl.OK {
				t.Errorf("BoundsOf(%v) from %d is %v, %v, %d, want %v, %v", p, k, low, high, code, c.low, c.high)
			}
		}
	}
}

func TestIsConvex(t *testing.T) {
	for _, text := range []string{
		"0,0 9,0 0,9", "7,3 12,5 9,11", "5,5 9,5 9,9 5,9", "5,0 10,5 5,10 0,5", "0,0 5,0 8,3 3,3", "0,0 20000,0 20000,20000 0,20000", "0,0 20000,19999 20000,20000",
		// Points on a straight edge make no turn.
		"0,0 4,0 9,0 0,9", "0,0 1,0 2,0 8,0 9,0 9,9 0,9", "0,0 9,0 6,3 3,6 0,9", "0,0 4,0 8,0 8,4 8,8 4,8 0,8 0,4",
	} {
		p := poly(text)
		for k := range p {
			if !impl.IsConvex(slices.Concat(p[k:], p[:k])) {
				t.Errorf("%v from %d is convex", p, k)
			}
		}
	}
	for _, text := range []string{
		"0,0 90,0 90,30 30,30 30,60 0,60", "0,0 20,0 20,20 10,3 0,20", "20,0 24,16 40,20 24,24 20,40 16,24 0,20 16,16", "0,0 10,1 20,0 10,9", "0,0 9,0 9,9 8,1", "0,0 5,1 9,0 9,9 0,9",
		"0,0 20000,0 10000,1 20000,20000 10001,9999 0,20000 1,10000", "0,0 10000,1 20000,0 0,20000",
	} {
		p := poly(text)
		for k := range p {
			if impl.IsConvex(slices.Concat(p[k:], p[:k])) {
				t.Errorf("%v from %d is not convex", p, k)
			}
		}
	}
	forBadPolygons(func(reason string, p []impl.Point) {
		if impl.IsConvex(p) {
			t.Errorf("%v is convex: %s", p, reason)
		}
	})
}

// TestConvexPolygonsLieToTheLeft compares with what is known of convex polygons: no point lies to the right of any edge.
func TestConvexPolygonsLieToTheLeft(t *testing.T) {
	for _, p := range append(goodPolygons(), smallPolygons()...) {
		want := true
		for k, a := range p {
			for _, q := range p {
				want = want && product(a, p[(k+1)%len(p)], a, q) >= 0
			}
		}
		if got := impl.IsConvex(p); got != want {
			t.Errorf("IsConvex(%v) is %v", p, got)
		}
	}
}

func TestCentreOf(t *testing.T) {
	for _, c := range []struct {
		text string
		want impl.Point
	}{
		{"0,0 9,0 0,9", pt(3, 3)}, {"5,5 9,5 9,9 5,9", pt(7, 7)}, {"0,0 4,0 9,0 0,9", pt(3, 3)},
		// Thirds are rounded to the nearest, and halves up: 37 1/2 and 22 1/2, 1/2, and 3 1/2 with 5.
		{"0,0 1,0 0,1", pt(0, 0)}, {"0,0 2,0 0,2", pt(1, 1)}, {"0,0 4,0 0,5", pt(1, 2)}, {"0,0 90,0 90,30 30,30 30,60 0,60", pt(38, 23)}, {"0,0 1,0 1,1 0,1", pt(1, 1)}, {"3,4 4,4 4,6 3,6", pt(4, 5)},
		// The terms of some edges are negative.
		{"7,3 12,5 9,11", pt(9, 6)}, {"100,100 101,100 100,101", pt(100, 100)}, {"5,0 10,5 5,10 0,5", pt(5, 5)}, {"10,10 90,10 10,11", pt(37, 10)}, {"10,10 90,10 90,11 10,11", pt(50, 11)},
		// The centre lies outside.
		{"0,0 10,0 10,1 1,1 1,9 10,9 10,10 0,10", pt(4, 5)},
		{"0,0 20000,0 20000,20000 0,20000", pt(10000, 10000)}, {"0,0 20000,0 0,20000", pt(6667, 6667)}, {"20000,0 20000,20000 0,20000", pt(13333, 13333)}, {"0,19999 1,19999 1,20000 0,20000", pt(1, 20000)},
		{"19999,19999 20000,19999 19999,20000", pt(19999, 19999)}, {"20000,0 20000,1 0,20000 0,19999", pt(10000, 10000)},
	} {
		p := poly(c.text)
		for k := range p {
			q := slices.Concat(p[k:], p[:k])
			if got, code := impl.CentreOf(q); got != c.want || code != impl.OK {
				t.Errorf("CentreOf(%v) is %v, %d, want %v", q, got, code, c.want)
			}
		}
	}
}

// meanOfTriangles weighs the centres of the triangles that the edges make with the first point.
func meanOfTriangles(p []impl.Point) (x, y int64) {
	sumX, sumY, area := new(big.Rat), new(big.Rat), big.NewRat(fanArea(p), 1)
	for k := 2; k < len(p); k++ {
		weight := big.NewRat(product(p[0], p[k-1], p[0], p[k]), 3)
		sumX.Add(sumX, new(big.Rat).Mul(weight, big.NewRat(p[0].X+p[k-1].X+p[k].X, 1)))
		sumY.Add(sumY, new(big.Rat).Mul(weight, big.NewRat(p[0].Y+p[k-1].Y+p[k].Y, 1)))
	}
	return halfUp(sumX.Quo(sumX, area)), halfUp(sumY.Quo(sumY, area))
}

func TestAllCentres(t *testing.T) {
	for _, p := range append(goodPolygons(), smallPolygons()...) {
		x, y := meanOfTriangles(p)
		if got, code := impl.CentreOf(p); got != pt(x, y) || code != impl.OK {
			t.Errorf("CentreOf(%v) is %v, %d, want %d, %d", p, got, code, x, y)
		}
	}
}

func TestMeasuresRefuse(t *testing.T) {
	forBadPolygons(func(reason string, p []impl.Point) {
		if got, code := impl.AreaTwice(p); got != 0 || code != impl.ErrInvalid {
			t.Errorf("AreaTwice(%v) is %d, %d: %s", p, got, code, reason)
		}
		if got, code := impl.PerimeterOf(p); got != 0 || code != impl.ErrInvalid {
			t.Errorf("PerimeterOf(%v) is %d, %d: %s", p, got, code, reason)
		}
		if low, high, code := impl.BoundsOf(p); low != pt(0, 0) || high != pt(0, 0) || code != impl.ErrInvalid {
			t.Errorf("BoundsOf(%v) is %v, %v, %d: %s", p, low, high, code, reason)
		}
		if got, code := impl.CentreOf(p); got != pt(0, 0) || code != impl.ErrInvalid {
			t.Errorf("CentreOf(%v) is %v, %d: %s", p, got, code, reason)
		}
		for _, q := range []impl.Point{pt(0, 0), pt(6, 6), pt(most, most), pt(-1, 0), pt(0, math.MaxInt64)} {
			if got, code := impl.Inside(p, q); got != 0 || code != impl.ErrInvalid {
				t.Errorf("Inside(%v, %v) is %d, %d: %s", p, q, got, code, reason)
			}
		}
	})
}
