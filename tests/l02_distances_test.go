package tests

import (
	"math/big"
	"testing"

	"loop.example/g00956/impl"
)

func TestDistance(t *testing.T) {
	for _, c := range []struct {
		a, b impl.Point
		want int64
	}{
		{pt(0, 0), pt(3, 4), 5}, {pt(3, 4), pt(0, 0), 5}, {pt(0, 4), pt(3, 0), 5}, {pt(0, 0), pt(2, 2), 2}, {pt(0, 0), pt(1, 1), 1}, {pt(7, 7), pt(7, 7), 0},
		{pt(5, 0), pt(0, 0), 5}, {pt(0, 0), pt(0, 1), 1}, {pt(0, 0), pt(4, 5), 6}, {pt(0, 0), pt(7, 1), 7},
		{pt(0, 0), pt(most, most), 28284}, {pt(most, 0), pt(0, most), 28284}, {pt(0, 0), pt(most, 0), most}, {pt(0, 0), pt(most, 1), most}, {pt(0, 0), pt(12000, 16000), 20000},
		{pt(0, 0), pt(12000, 15999), 19999}, {pt(0, 0), pt(0, 0), 0}, {pt(most, most), pt(most, most), 0},
	} {
		if got := impl.Distance(c.a, c.b); got != c.want {
			t.Errorf("Distance(%v, %v) is %d, want %d", c.a, c.b, got, c.want)
		}
	}
}

func TestDistanceToSegment(t *testing.T) {
	for _, c := range []struct {
		a, b, p impl.Point
		want    int64
	}{
		{pt(0, 0), pt(10, 0), pt(6, 4), 4}, {pt(5, 0), pt(10, 0), pt(5, 5), 5}, {pt(0, 0), pt(10, 0), pt(6, 0), 0}, {pt(0, 0), pt(10, 0), pt(0, 0), 0}, {pt(0, 0), pt(10, 0), pt(10, 0), 0},
		// The nearest point is an end.
		{pt(10, 10), pt(20, 10), pt(7, 14), 5}, {pt(10, 10), pt(20, 10), pt(23, 6), 5}, {pt(10, 10), pt(20, 10), pt(0, 10), 10}, {pt(10, 10), pt(20, 10), pt(31, 10), 11},
		{pt(0, 0), pt(10, 10), pt(11, 12), 2}, {pt(5, 5), pt(10, 10), pt(0, 9), 6}, {pt(5, 5), pt(10, 10), pt(9, 0), 6}, {pt(5, 5), pt(10, 10), pt(1, 9), 5}, {pt(3, 3), pt(5, 4), pt(4, 0), 3},
		// The nearest point lies between the ends, and has no integer coordinates.
		{pt(0, 0), pt(1, 1), pt(1, 0), 0}, {pt(0, 0), pt(3, 3), pt(3, 0), 2}, {pt(0, 0), pt(10, 5), pt(0, 10), 8}, {pt(0, 0), pt(9, 3), pt(4, 10), 8}, {pt(0, 0), pt(7, 3), pt(2, 6), 4},
		{pt(7, 3), pt(0, 0), pt(2, 6), 4}, {pt(0, 7), pt(7, 0), pt(7, 7), 4}, {pt(0, 10), pt(10, 0), pt(10, 10), 7},
		// Segments of one point.
		{pt(3, 3), pt(3, 3), pt(3, 3), 0}, {pt(3, 3), pt(3, 3), pt(6, 7), 5}, {pt(3, 3), pt(3, 3), pt(0, 0), 4}, {pt(0, 0), pt(0, 0), pt(most, most), 28284},
		// The greatest coordinates.
		{pt(0, 0), pt(most, most), pt(most, 0), 14142}, {pt(0, 0), pt(most, most), pt(0, most), 14142}, {pt(most, 0), pt(0, most), pt(most, most), 14142},
		{pt(0, 0), pt(most, 1), pt(0, most), 19999}, {pt(0, 0), pt(most, 0), pt(1, most), most}, {pt(0, 0), pt(most, most-1), pt(most-1, most), 1}, {pt(0, 0), pt(0, 1), pt(most, most), 28283},
	} {
		if got := impl.DistanceToSegment(c.a, c.b, c.p); got != c.want {
			t.Errorf("DistanceToSegment(%v, %v, %v) is %d, want %d", c.a, c.b, c.p, got, c.want)
		}
	}
}

// at is the place of p on a way from a to b, as a fraction: 0 at a and 1 at b, and 0 if they are equal.
func at(a, b, p impl.Point) *big.Rat {
	dx, dy := b.X-a.X, b.Y-a.Y
	if dx == 0 && dy == 0 {
		return new(big.Rat)
	}
	place := big.NewRat(dx*(p.X-a.X)+dy*(p.Y-a.Y), dx*dx+dy*dy)
	if place.Sign() < 0 {
		return new(big.Rat)
	}
	if one := big.NewRat(1, 1); place.Cmp(one) > 0 {
		return one
	}
	return place
}

// between is from + (to - from) * place.
func between(from, to int64, place *big.Rat) *big.Rat {
	way := new(big.Rat).Mul(big.NewRat(to-from, 1), place)
	return way.Add(way, big.NewRat(from, 1))
}

func squared(a *big.Rat, b int64) *big.Rat {
	d := new(big.Rat).Sub(a, big.NewRat(b, 1))
	return d.Mul(d, d)
}

// nearest computes with fractions of any size what DistanceToSegment returns.
func nearest(a, b, p impl.Point) int64 {
	place := at(a, b, p)
	square := squared(between(a.X, b.X, place), p.X)
	square.Add(square, squared(between(a.Y, b.Y, place), p.Y))
	whole := new(big.Int).Quo(square.Num(), square.Denom())
	return whole.Sqrt(whole).Int64()
}

func TestAllDistancesToSegments(t *testing.T) {
	for _, points := range [][]impl.Point{grid(6), farPoints} {
		for _, a := range points {
			for _, b := range points {
				for _, p := range points {
					if got, want := impl.DistanceToSegment(a, b, p), nearest(a, b, p); got != want {
						t.Fatalf("DistanceToSegment(%v, %v, %v) is %d, want %d", a, b, p, got, want)
					}
					if got, want := impl.DistanceToSegment(a, a, p), impl.Distance(a, p); got != want {
						t.Fatalf("DistanceToSegment(%v, %v, %v) is %d, but Distance %d", a, a, p, got, want)
					}
				}
			}
		}
	}
}

func TestAllSegmentDistances(t *testing.T) {
	forQuadruples(func(a, b, c, d impl.Point) {
		want := min(nearest(a, b, c), nearest(a, b, d), nearest(c, d, a), nearest(c, d, b))
		if touches, _ := meeting(a, b, c, d); touches {
			want = 0
		}
		if got := impl.SegmentDistance(a, b, c, d); got != want {
			t.Fatalf("SegmentDistance(%v, %v, %v, %v) is %d, want %d", a, b, c, d, got, want)
		}
	})
}

// TestNoPointsAreNearer compares with points at eighths of both segments, some of which are near to the nearest ones.
func TestNoPointsAreNearer(t *testing.T) {
	for _, c := range segmentPairs {
		found := impl.SegmentDistance(c.a, c.b, c.c, c.d)
		for k := range int64(9) {
			for m := range int64(9) {
				dx := c.a.X*(8-k) + c.b.X*k - c.c.X*(8-m) - c.d.X*m
				dy := c.a.Y*(8-k) + c.b.Y*k - c.c.Y*(8-m) - c.d.Y*m
				if dx*dx+dy*dy < 64*found*found {
					t.Errorf("%v is said to be %d apart, but is not at %d/8 and %d/8", c, found, k, m)
				}
			}
		}
	}
}

func TestCrossPoint(t *testing.T) {
	for _, c := range []struct{ a, b, c, d, want impl.Point }{
		{pt(0, 0), pt(10, 10), pt(0, 5), pt(10, 4), pt(5, 5)}, {pt(0, 0), pt(4, 4), pt(0, 4), pt(4, 0), pt(2, 2)},
		// Halves, in each direction of both segments (see sameSegments): up, also where the step is negative.
		{pt(0, 0), pt(1, 1), pt(0, 1), pt(1, 0), pt(1, 1)}, {pt(2, 3), pt(5, 6), pt(2, 6), pt(5, 3), pt(4, 5)},
		{pt(3, 0), pt(4, 8), pt(0, 4), pt(9, 4), pt(4, 4)}, {pt(0, 3), pt(8, 4), pt(4, 0), pt(4, 9), pt(4, 4)}, {pt(10, 10), pt(13, 10), pt(11, 9), pt(12, 11), pt(12, 10)},
		{pt(10, 10), pt(10, 13), pt(9, 11), pt(11, 12), pt(10, 12)}, {pt(0, 1), pt(9, 0), pt(4, 0), pt(5, 1), pt(5, 1)},
		// Thirds and other parts, on both sides of a half.
		{pt(0, 0), pt(1, 3), pt(0, 1), pt(3, 1), pt(0, 1)}, {pt(0, 0), pt(2, 3), pt(0, 1), pt(3, 1), pt(1, 1)}, {pt(0, 0), pt(1, 3), pt(0, 2), pt(3, 2), pt(1, 2)},
		{pt(0, 0), pt(3, 1), pt(1, 0), pt(1, 3), pt(1, 0)}, {pt(0, 0), pt(3, 1), pt(2, 0), pt(2, 3), pt(2, 1)},
		// The greatest coordinates.
		{pt(0, 0), pt(most, most), pt(0, most), pt(most, 0), pt(10000, 10000)}, {pt(0, 0), pt(most-1, most-1), pt(0, most-1), pt(most-1, 0), pt(10000, 10000)},
		{pt(1, 0), pt(most, most), pt(0, most), pt(most, 1), pt(10001, 10000)}, {pt(0, 0), pt(most, most-1), pt(most, most), pt(most-1, 0), pt(most, most-1)},
	} {
		for _, q := range sameSegments(c.a, c.b, c.c, c.d) {
			if got, code := impl.CrossPoint(q[0], q[1], q[2], q[3]); got != c.want || code != impl.OK {
				t.Errorf("CrossPoint%v is %v, %d, want %v", q, got, code, c.want)
			}
		}
	}
}

// halfUp is the greatest integer that is at most n plus a half.
func halfUp(n *big.Rat) int64 {
	sum := new(big.Rat).Add(n, big.NewRat(1, 2))
	return new(big.Int).Div(sum.Num(), sum.Denom()).Int64()
}

// TestCrossingsLieNearBothSegments: the crossing, which lies on both, is at most the half of a diagonal away from the rounded one.
func TestCrossingsLieNearBothSegments(t *testing.T) {
	crossings := 0
	forQuadruples(func(a, b, c, d impl.Point) {
		p, code := impl.CrossPoint(a, b, c, d)
		if !impl.Crosses(a, b, c, d) {
			if p != pt(0, 0) || code != impl.ErrState {
				t.Fatalf("CrossPoint(%v, %v, %v, %v) is %v, %d", a, b, c, d, p, code)
			}
			return
		}
		crossings++
		place := big.NewRat(product(a, c, c, d), product(a, b, c, d))
		want := pt(halfUp(between(a.X, b.X, place)), halfUp(between(a.Y, b.Y, place)))
		if p != want || code != impl.OK {
			t.Fatalf("CrossPoint(%v, %v, %v, %v) is %v, %d, want %v", a, b, c, d, p, code, want)
		}
		if impl.DistanceToSegment(a, b, p) != 0 || impl.DistanceToSegment(c, d, p) != 0 {
			t.Fatalf("CrossPoint(%v, %v, %v, %v) is %v, which is not near both", a, b, c, d, p)
		}
		if q, _ := impl.CrossPoint(d, c, a, b); q != p {
			t.Fatalf("%v %v and %v %v cross at %v and in another order at %v", a, b, c, d, p, q)
		}
	})
	if crossings < 1000 {
		t.Errorf("only %d crossings were tried", crossings)
	}
}
