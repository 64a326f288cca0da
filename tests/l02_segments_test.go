package tests

import (
	"math"
	"testing"

	"loop.example/g00956/impl"
)

const most = impl.MaxCoordinate

func pt(x, y int64) impl.Point { return impl.Point{X: x, Y: y} }

// grid returns all points with coordinates from 0 to n - 1.
func grid(n int64) []impl.Point {
	var points []impl.Point
	for x := range n {
		for y := range n {
			points = append(points, pt(x, y))
		}
	}
	return points
}

// farPoints are the corners of the plane, their neighbours and some points between.
var farPoints = []impl.Point{
	{X: 0, Y: 0}, {X: most, Y: 0}, {X: 0, Y: most}, {X: most, Y: most}, {X: 1, Y: 0}, {X: most - 1, Y: most}, {X: most, Y: most - 1},
	{X: 0, Y: 1}, {X: most / 2, Y: most / 2}, {X: most/2 - 1, Y: most / 2}, {X: 12345, Y: 6789}, {X: 7, Y: 19999},
}

// forQuadruples calls check with all quadruples of the points of a small grid, and with those of far points.
func forQuadruples(check func(a, b, c, d impl.Point)) {
	for _, points := range [][]impl.Point{grid(4), farPoints} {
		for _, a := range points {
			for _, b := range points {
				for _, c := range points {
					for _, d := range points {
						check(a, b, c, d)
					}
				}
			}
		}
	}
}

func TestMaxCoordinate(t *testing.T) {
	if impl.MaxCoordinate != 20000 {
		t.Errorf("MaxCoordinate is %d", impl.MaxCoordinate)
	}
}

// badCoordinates make a point invalid, as X and as Y.
var badCoordinates = []int64{math.MinInt64, math.MinInt64 + 1, -most - 1, -most, -1, most + 1, 1 << 32, math.MaxInt64 - 1, math.MaxInt64}

func badPoints() []impl.Point {
	points := []impl.Point{{X: -1, Y: -1}, {X: most + 1, Y: most + 1}, {X: -1, Y: most + 1}, {X: math.MinInt64, Y: math.MaxInt64}, {X: math.MinInt64, Y: math.MinInt64}}
	for _, n := range badCoordinates {
		points = append(points, pt(n, 0), pt(0, n), pt(n, 5), pt(5, n), pt(n, most), pt(most, n))
	}
	return points
}

func TestValidPoint(t *testing.T) {
	for _, p := range append(grid(3), farPoints...) {
		if !impl.ValidPoint(p) {
			t.Errorf("%v is valid", p)
		}
	}
	for _, p := range badPoints() {
		if impl.ValidPoint(p) {
			t.Errorf("%v is not valid", p)
		}
	}
}

// TestPointsThatAreNotValid puts an invalid point in each place of points that cross, touch and are apart.
func TestPointsThatAreNotValid(t *testing.T) {
	for _, points := range [][4]impl.Point{
		{pt(0, 0), pt(4, 4), pt(0, 4), pt(4, 0)}, {pt(0, 0), pt(4, 0), pt(2, 0), pt(2, 3)}, {pt(0, 0), pt(4, 0), pt(0, 3), pt(4, 3)},
		{pt(5, 5), pt(5, 5), pt(5, 5), pt(5, 5)}, {pt(0, 0), pt(most, most), pt(0, most), pt(most, 0)},
	} {
		for place := range 4 {
			for _, bad := range badPoints() {
				q := points
				q[place] = bad
				checkInvalidFour(t, q[0], q[1], q[2], q[3])
				if place < 3 {
					checkInvalidThree(t, q[0], q[1], q[2])
				}
				if place < 2 {
					if got := impl.Distance(q[0], q[1]); got != -1 {
						t.Errorf("Distance(%v, %v) is %d", q[0], q[1], got)
					}
				}
			}
		}
	}
}

func checkInvalidFour(t *testing.T, a, b, c, d impl.Point) {
	t.Helper()
	if impl.Crosses(a, b, c, d) || impl.Touches(a, b, c, d) {
		t.Errorf("%v %v and %v %v cross or touch", a, b, c, d)
	}
	if got := impl.SegmentDistance(a, b, c, d); got != -1 {
		t.Errorf("SegmentDistance(%v, %v, %v, %v) is %d", a, b, c, d, got)
	}
	if got, code := impl.CrossPoint(a, b, c, d); got != pt(0, 0) || code != impl.ErrInvalid {
		t.Errorf("CrossPoint(%v, %v, %v, %v) is %v, %d", a, b, c, d, got, code)
	}
}

func checkInvalidThree(t *testing.T, a, b, c impl.Point) {
	t.Helper()
	if got := impl.SideOf(a, b, c); got != 0 {
		t.Errorf("SideOf(%v, %v, %v) is %d", a, b, c, got)
	}
	if impl.OnSegment(a, b, c) {
		t.Errorf("OnSegment(%v, %v, %v) is true", a, b, c)
	}
	if got := impl.DistanceToSegment(a, b, c); got != -1 {
		t.Errorf("DistanceToSegment(%v, %v, %v) is %d", a, b, c, got)
	}
}

func TestSideOf(t *testing.T) {
	for _, c := range []struct {
		a, b, c impl.Point
		want    int64
	}{
		{pt(0, 0), pt(10, 0), pt(5, 5), 1}, {pt(10, 0), pt(0, 0), pt(5, 5), -1}, {pt(0, 0), pt(10, 0), pt(5, 0), 0},
		{pt(5, 5), pt(5, 9), pt(4, 0), 1}, {pt(5, 5), pt(5, 9), pt(6, 0), -1}, {pt(5, 9), pt(5, 5), pt(6, 0), 1}, {pt(5, 9), pt(5, 5), pt(4, 0), -1},
		{pt(5, 5), pt(5, 9), pt(5, 0), 0}, {pt(5, 5), pt(5, 9), pt(5, most), 0}, {pt(2, 2), pt(4, 4), pt(0, 0), 0}, {pt(2, 2), pt(4, 4), pt(9, 9), 0},
		{pt(2, 2), pt(4, 4), pt(2, 2), 0}, {pt(2, 2), pt(4, 4), pt(4, 4), 0}, {pt(3, 3), pt(3, 3), pt(3, 3), 0}, {pt(3, 3), pt(3, 3), pt(9, 1), 0},
		{pt(0, 0), pt(most, most), pt(most-1, most), 1}, {pt(0, 0), pt(most, most), pt(most, most-1), -1}, {pt(0, 0), pt(most, most), pt(1, 1), 0},
		{pt(0, 0), pt(most, most-1), pt(most-1, most-2), -1}, {pt(0, 0), pt(most-1, most), pt(most-2, most-1), 1},
		{pt(0, most), pt(most, 0), pt(most, most), 1}, {pt(0, most), pt(most, 0), pt(0, 0), -1}, {pt(most, most), pt(0, most), pt(most, 0), 1},
	} {
		if got := impl.SideOf(c.a, c.b, c.c); got != c.want {
			t.Errorf("SideOf(%v, %v, %v) is %d, want %d", c.a, c.b, c.c, got, c.want)
		}
	}
}

func TestSidesChangeWithTheOrder(t *testing.T) {
	for _, points := range [][]impl.Point{grid(5), farPoints} {
		for _, a := range points {
			for _, b := range points {
				for _, c := range points {
					side := impl.SideOf(a, b, c)
					if impl.SideOf(b, c, a) != side || impl.SideOf(c, a, b) != side || impl.SideOf(b, a, c) != -side || impl.SideOf(a, c, b) != -side {
						t.Fatalf("the sides of %v, %v and %v do not agree", a, b, c)
					}
				}
			}
		}
	}
}

// onLattice looks for p among the points with integer coordinates of a segment.
func onLattice(a, b, p impl.Point) bool {
	dx, dy := b.X-a.X, b.Y-a.Y
	steps := gcd(magnitudeOf(dx), magnitudeOf(dy))
	if steps == 0 {
		return p == a
	}
	for k := range steps + 1 {
		if p == pt(a.X+dx/steps*k, a.Y+dy/steps*k) {
			return true
		}
	}
	return false
}

func gcd(a, b int64) int64 {
	for b != 0 {
		a, b = b, a%b
	}
	return a
}

func TestOnSegment(t *testing.T) {
	for _, c := range []struct {
		a, b, p impl.Point
		want    bool
	}{
		{pt(0, 0), pt(10, 0), pt(5, 0), true}, {pt(0, 0), pt(5, 0), pt(10, 0), false}, {pt(2, 2), pt(8, 5), pt(4, 3), true}, {pt(2, 2), pt(8, 5), pt(5, 3), false},
		{pt(2, 2), pt(8, 5), pt(2, 2), true}, {pt(2, 2), pt(8, 5), pt(8, 5), true}, {pt(2, 2), pt(8, 5), pt(0, 1), false}, {pt(2, 2), pt(8, 5), pt(10, 6), false},
		{pt(8, 5), pt(2, 2), pt(6, 4), true}, {pt(8, 5), pt(2, 2), pt(0, 1), false}, {pt(3, 7), pt(3, 1), pt(3, 4), true}, {pt(3, 7), pt(3, 1), pt(3, 8), false}, {pt(3, 7), pt(3, 1), pt(3, 0), false},
		{pt(3, 3), pt(3, 3), pt(3, 3), true}, {pt(3, 3), pt(3, 3), pt(3, 4), false}, {pt(3, 3), pt(3, 3), pt(2, 3), false}, {pt(3, 3), pt(3, 3), pt(2, 2), false},
		{pt(0, 0), pt(0, 0), pt(0, 0), true}, {pt(most, most), pt(most, most), pt(most, most), true}, {pt(most, most), pt(most, most), pt(0, 0), false},
		{pt(0, 0), pt(most, most), pt(most, most), true}, {pt(0, 0), pt(most, most), pt(most-1, most-1), true}, {pt(0, 0), pt(most, most), pt(most, most-1), false},
		{pt(0, most), pt(most, 0), pt(1, most-1), true}, {pt(0, most), pt(most, 0), pt(0, 0), false}, {pt(0, 0), pt(most-1, most-1), pt(most, most), false},
	} {
		if got := impl.OnSegment(c.a, c.b, c.p); got != c.want {
			t.Errorf("OnSegment(%v, %v, %v) is %v", c.a, c.b, c.p, got)
		}
	}
	for _, points := range [][]impl.Point{grid(6), farPoints} {
		for _, a := range points {
			for _, b := range points {
				for _, p := range points {
					if got, want := impl.OnSegment(a, b, p), onLattice(a, b, p); got != want {
						t.Fatalf("OnSegment(%v, %v, %v) is %v", a, b, p, got)
					}
				}
			}
		}
	}
}

// segmentPairs are pairs of segments, with whether they cross, whether they touch, and their distance.
var segmentPairs = []struct {
	a, b, c, d       impl.Point
	crosses, touches bool
	distance         int64
}{
	{pt(0, 0), pt(10, 10), pt(0, 5), pt(10, 4), true, true, 0}, {pt(0, 0), pt(4, 4), pt(0, 4), pt(4, 0), true, true, 0}, {pt(0, 0), pt(1, 1), pt(0, 1), pt(1, 0), true, true, 0},
	{pt(0, 0), pt(most, most), pt(0, most), pt(most, 0), true, true, 0}, {pt(0, 0), pt(most, most-1), pt(1, 0), pt(0, 1), true, true, 0},
	// An end of one within the other.
	{pt(0, 0), pt(10, 0), pt(5, 5), pt(5, 0), false, true, 0}, {pt(0, 0), pt(10, 0), pt(5, 0), pt(5, 5), false, true, 0}, {pt(0, 0), pt(6, 6), pt(4, 4), pt(9, 0), false, true, 0},
	// An end in common.
	{pt(0, 0), pt(4, 0), pt(4, 0), pt(4, 4), false, true, 0}, {pt(0, 0), pt(4, 0), pt(0, 4), pt(0, 0), false, true, 0}, {pt(0, 0), pt(4, 0), pt(4, 0), pt(0, 1), false, true, 0},
	// On one line: apart, with one end in common, overlapping, one within the other, equal, and equal in reverse.
	{pt(0, 0), pt(4, 2), pt(6, 3), pt(8, 4), false, false, 2}, {pt(0, 0), pt(4, 0), pt(5, 0), pt(8, 0), false, false, 1}, {pt(8, 0), pt(5, 0), pt(0, 0), pt(4, 0), false, false, 1},
	{pt(0, 0), pt(4, 2), pt(4, 2), pt(8, 4), false, true, 0}, {pt(4, 2), pt(0, 0), pt(8, 4), pt(4, 2), false, true, 0}, {pt(3, 0), pt(3, 4), pt(3, 4), pt(3, 9), false, true, 0},
	{pt(0, 0), pt(4, 2), pt(2, 1), pt(8, 4), false, true, 0}, {pt(3, 0), pt(3, 4), pt(3, 9), pt(3, 3), false, true, 0}, {pt(0, 0), pt(9, 9), pt(3, 3), pt(5, 5), false, true, 0},
	{pt(0, 0), pt(9, 9), pt(0, 0), pt(5, 5), false, true, 0}, {pt(0, 0), pt(4, 2), pt(0, 0), pt(4, 2), false, true, 0}, {pt(0, 0), pt(4, 2), pt(4, 2), pt(0, 0), false, true, 0},
	// Parallel, and apart though their lines meet.
	{pt(0, 0), pt(4, 0), pt(0, 3), pt(4, 3), false, false, 3}, {pt(0, 0), pt(4, 4), pt(1, 0), pt(5, 4), false, false, 0}, {pt(0, 0), pt(4, 4), pt(4, 0), pt(8, 4), false, false, 2},
	{pt(0, 0), pt(10, 0), pt(5, 1), pt(5, 5), false, false, 1}, {pt(0, 0), pt(10, 0), pt(5, 5), pt(6, 4), false, false, 4}, {pt(0, 0), pt(2, 2), pt(0, 9), pt(9, 0), false, false, 3},
	{pt(0, 0), pt(10, 0), pt(11, 1), pt(11, 5), false, false, 1}, {pt(0, 0), pt(10, 0), pt(13, 4), pt(20, 9), false, false, 5}, {pt(5, 1), pt(5, 5), pt(10, 0), pt(0, 0), false, false, 1},
	{pt(0, 0), pt(0, most), pt(most, 0), pt(most, most), false, false, most}, {pt(0, 0), pt(1, 0), pt(most, most), pt(most-1, most), false, false, 28282},
	// Segments of one point.
	{pt(3, 3), pt(3, 3), pt(3, 3), pt(3, 3), false, true, 0}, {pt(3, 3), pt(3, 3), pt(6, 7), pt(6, 7), false, false, 5}, {pt(3, 3), pt(3, 3), pt(0, 0), pt(6, 6), false, true, 0},
	{pt(3, 3), pt(3, 3), pt(3, 3), pt(6, 6), false, true, 0}, {pt(0, 0), pt(6, 6), pt(6, 6), pt(6, 6), false, true, 0}, {pt(0, 0), pt(6, 6), pt(7, 7), pt(7, 7), false, false, 1},
	{pt(0, 0), pt(6, 0), pt(3, 4), pt(3, 4), false, false, 4}, {pt(9, 9), pt(9, 9), pt(0, 0), pt(6, 6), false, false, 4}, {pt(3, 4), pt(3, 4), pt(0, 0), pt(6, 0), false, false, 4},
	{pt(0, 0), pt(0, 0), pt(most, most), pt(most, most), false, false, 28284},
}

func TestPairsOfSegments(t *testing.T) {
	for _, c := range segmentPairs {
		for _, q := range sameSegments(c.a, c.b, c.c, c.d) {
			if got := impl.Crosses(q[0], q[1], q[2], q[3]); got != c.crosses {
				t.Errorf("Crosses%v is %v", q, got)
			}
			if got := impl.Touches(q[0], q[1], q[2], q[3]); got != c.touches {
				t.Errorf("Touches%v is %v", q, got)
			}
			if got := impl.SegmentDistance(q[0], q[1], q[2], q[3]); got != c.distance {
				t.Errorf("SegmentDistance%v is %d, want %d", q, got, c.distance)
			}
			if got, code := impl.CrossPoint(q[0], q[1], q[2], q[3]); !c.crosses && (got != pt(0, 0) || code != impl.ErrState) || c.crosses && code != impl.OK {
				t.Errorf("CrossPoint%v is %v, %d", q, got, code)
			}
		}
	}
}

// sameSegments are all the ways to name the same two segments.
func sameSegments(a, b, c, d impl.Point) [][4]impl.Point {
	return [][4]impl.Point{
		{a, b, c, d}, {b, a, c, d}, {a, b, d, c}, {b, a, d, c}, {c, d, a, b}, {d, c, a, b}, {c, d, b, a}, {d, c, b, a},
	}
}

// meeting finds out by the places at which two segments pass each other whether they touch and whether they cross.
func meeting(a, b, c, d impl.Point) (touches, crosses bool) {
	whole := product(a, b, c, d)
	if whole == 0 {
		// Of parallel segments with a point in common, one has an end within the other.
		return onLattice(a, b, c) || onLattice(a, b, d) || onLattice(c, d, a) || onLattice(c, d, b), false
	}
	first, second := product(a, c, c, d), product(a, c, a, b)
	if whole < 0 {
		whole, first, second = -whole, -first, -second
	}
	within := 0 <= first && first <= whole && 0 <= second && second <= whole
	return within, within && first%whole != 0 && second%whole != 0
}

// product is the cross product of the steps from a to b and from c to d.
func product(a, b, c, d impl.Point) int64 {
	return (b.X-a.X)*(d.Y-c.Y) - (b.Y-a.Y)*(d.X-c.X)
}

func TestAllMeetings(t *testing.T) {
	forQuadruples(func(a, b, c, d impl.Point) {
		touches, crosses := meeting(a, b, c, d)
		if got := impl.Touches(a, b, c, d); got != touches {
			t.Fatalf("Touches(%v, %v, %v, %v) is %v", a, b, c, d, got)
		}
		if got := impl.Crosses(a, b, c, d); got != crosses {
			t.Fatalf("Crosses(%v, %v, %v, %v) is %v", a, b, c, d, got)
		}
	})
}
