package tests

import (
	"math"
	"slices"
	"testing"

	"loop.example/g00956/impl"
)

func TestStartAt(t *testing.T) {
	p := poly("0,0 90,0 90,30 30,30 30,60 0,60")
	for k, want := range []string{
		"0,0 90,0 90,30 30,30 30,60 0,60", "90,0 90,30 30,30 30,60 0,60 0,0", "90,30 30,30 30,60 0,60 0,0 90,0",
		"30,30 30,60 0,60 0,0 90,0 90,30", "30,60 0,60 0,0 90,0 90,30 30,30", "0,60 0,0 90,0 90,30 30,30 30,60",
	} {
		if got, code := impl.StartAt(p, int64(k)); !slices.Equal(got, poly(want)) || code != impl.OK {
			t.Errorf("StartAt(%v, %d) is %v, %d, want %s", p, k, got, code, want)
		}
	}
	for _, p := range goodPolygons() {
		for k := range p {
			got, code := impl.StartAt(p, int64(k))
			if !slices.Equal(got, slices.Concat(p[k:], p[:k])) || code != impl.OK || !impl.SamePolygon(got, p) {
				t.Errorf("StartAt(%v, %d) is %v, %d", p, k, got, code)
			}
		}
		for _, k := range []int64{-1, int64(len(p)), int64(len(p)) + 1, -int64(len(p)), 1 << 32, math.MinInt64, math.MaxInt64} {
			if got, code := impl.StartAt(p, k); len(got) != 0 || code != impl.ErrRange {
				t.Errorf("StartAt(%v, %d) is %v, %d", p, k, got, code)
			}
		}
	}
}

func TestShiftPolygon(t *testing.T) {
	for _, c := range []struct {
		text   string
		dx, dy int64
		want   string
		code   int64
	}{
		{"0,0 9,0 0,9", 0, 0, "0,0 9,0 0,9", impl.OK}, {"0,0 9,0 0,9", 5, 7, "5,7 14,7 5,16", impl.OK}, {"5,7 14,7 5,16", -5, -7, "0,0 9,0 0,9", impl.OK},
		{"0,0 9,0 0,9", 19991, 19991, "19991,19991 20000,19991 19991,20000", impl.OK}, {"0,0 0,20000 0,0", 0, 0, "", impl.ErrInvalid}, {"0,0 20000,0 20000,20000 0,20000", 0, 0, "0,0 20000,0 20000,20000 0,20000", impl.OK},
		// One unit beyond each side of the plane.
		{"0,0 9,0 0,9", -1, 0, "", impl.ErrState}, {"0,0 9,0 0,9", 0, -1, "", impl.ErrState}, {"0,0 9,0 0,9", 19992, 0, "", impl.ErrState}, {"0,0 9,0 0,9", 0, 19992, "", impl.ErrState},
		{"5,7 14,7 5,16", -6, 0, "", impl.ErrState}, {"5,7 14,7 5,16", 0, -8, "", impl.ErrState}, {"0,0 20000,0 20000,20000 0,20000", 1, 0, "", impl.ErrState}, {"0,0 20000,0 20000,20000 0,20000", 0, -1, "", impl.ErrState},
		// The limits of the way: they are far enough to leave the plane for nearly all polygons.
		{"0,0 9,0 0,9", -20000, 0, "", impl.ErrState}, {"0,0 9,0 0,9", 0, 20000, "", impl.ErrState}, {"0,0 9,0 0,9", 20000, 20000, "", impl.ErrState}, {"19999,19999 20000,19999 19999,20000", -20000, -20000, "", impl.ErrState},
		{"19999,0 20000,0 19999,1", -19999, 19999, "0,19999 1,19999 0,20000", impl.OK}, {"19999,0 20000,0 19999,1", -20000, 0, "", impl.ErrState},
		{"0,0 9,0 0,9", -20001, 0, "", impl.ErrRange}, {"0,0 9,0 0,9", 0, -20001, "", impl.ErrRange}, {"0,0 9,0 0,9", 20001, 0, "", impl.ErrRange}, {"0,0 9,0 0,9", 0, 20001, "", impl.ErrRange},
		{"0,0 9,0 0,9", math.MinInt64, 0, "", impl.ErrRange}, {"0,0 9,0 0,9", 0, math.MinInt64, "", impl.ErrRange}, {"0,0 9,0 0,9", math.MaxInt64, 0, "", impl.ErrRange}, {"0,0 9,0 0,9", 0, math.MaxInt64, "", impl.ErrRange},
		// ErrRange comes before ErrState, and ErrInvalid before both.
		{"0,0 9,0 0,9", -1, 20001, "", impl.ErrRange}, {"0,0 9,0 0,9", -20001, -1, "", impl.ErrRange}, {"0,0 0,9 9,0", -1, -1, "", impl.ErrInvalid}, {"0,0 0,9 9,0", 20001, 0, "", impl.ErrInvalid}, {"0,0 9,0", 0, math.MinInt64, "", impl.ErrInvalid},
		// A polygon that is not valid does not become so by the way.
		{"-1,0 9,0 9,9", 1, 0, "", impl.ErrInvalid}, {"0,0 20001,0 0,9", -1, 0, "", impl.ErrInvalid},
	} {
		got, code := impl.ShiftPolygon(poly(c.text), c.dx, c.dy)
		if !slices.Equal(got, poly(c.want)) || code != c.code {
			t.Errorf("ShiftPolygon(%s, %d, %d) is %v, %d, want %s, %d", c.text, c.dx, c.dy, got, code, c.want, c.code)
		}
	}
}

// TestShiftsLeadToAllCorners moves each polygon as far as it can go to all sides, and one unit further.
func TestShiftsLeadToAllCorners(t *testing.T) {
	for _, p := range goodPolygons() {
		low, high, _ := impl.BoundsOf(p)
		for _, dx := range []int64{-low.X - 1, -low.X, 0, most - high.X, most - high.X + 1} {
			for _, dy := range []int64{-low.Y - 1, -low.Y, 0, most - high.Y, most - high.Y + 1} {
				checkShift(t, p, dx, dy)
			}
		}
	}
}

func checkShift(t *testing.T, p []impl.Point, dx, dy int64) {
	t.Helper()
	low, high, _ := impl.BoundsOf(p)
	got, code := impl.ShiftPolygon(p, dx, dy)
	switch stays := low.X+dx >= 0 && low.Y+dy >= 0 && high.X+dx <= most && high.Y+dy <= most; {
	case dx < -most || dx > most || dy < -most || dy > most:
		if len(got) != 0 || code != impl.ErrRange {
			t.Errorf("ShiftPolygon(%v, %d, %d) is %v, %d", p, dx, dy, got, code)
		}
	case !stays:
		if len(got) != 0 || code != impl.ErrState {
			t.Errorf("ShiftPolygon(%v, %d, %d) is %v, %d", p, dx, dy, got, code)
		}
	default:
		if !slices.Equal(got, moved(p, dx, dy)) || code != impl.OK || !impl.ValidPolygon(got) {
			t.Errorf("ShiftPolygon(%v, %d, %d) is %v, %d", p, dx, dy, got, code)
		}
		if back, code := impl.ShiftPolygon(got, -dx, -dy); !slices.Equal(back, p) || code != impl.OK {
			t.Errorf("%v moved by %d, %d and back is %v, %d", p, dx, dy, back, code)
		}
	}
}

func moved(p []impl.Point, dx, dy int64) []impl.Point {
	q := slices.Clone(p)
	for k := range q {
		q[k].X += dx
		q[k].Y += dy
	}
	return q
}

func TestTurnPolygon(t *testing.T) {
	p := poly("10,20 100,20 100,50 40,50 40,80 10,80")
	for turn, want := range []string{
		"0,0 90,0 90,30 30,30 30,60 0,60", "60,0 60,90 30,90 30,30 0,30 0,0", "90,60 0,60 0,30 60,30 60,0 90,0", "0,90 0,0 30,0 30,60 60,60 60,90",
		"90,0 90,60 60,60 60,30 0,30 0,0", "60,90 0,90 0,60 30,60 30,0 60,0", "0,60 0,0 30,0 30,30 90,30 90,60", "0,0 60,0 60,30 30,30 30,90 0,90",
	} {
		if got, code := impl.TurnPolygon(p, int64(turn)); !slices.Equal(got, poly(want)) || code != impl.OK {
			t.Errorf("TurnPolygon(%v, %d) is %v, %d, want %s", p, turn, got, code, want)
		}
	}
	for _, p := range goodPolygons() {
		for _, turn := range noTurns {
			if got, code := impl.TurnPolygon(p, turn); len(got) != 0 || code != impl.ErrRange {
				t.Errorf("TurnPolygon(%v, %d) is %v, %d", p, turn, got, code)
			}
		}
	}
}

// turnedPolygonAsTold follows the words of the document one after the other.
func turnedPolygonAsTold(p []impl.Point, turn int64) []impl.Point {
	var q []impl.Point
	for k := range p {
		from := k
		if turn >= 4 && k > 0 {
			from = len(p) - k
		}
		q = append(q, turnedAsTold(p[from], turn))
	}
	x, y := q[0].X, q[0].Y
	for _, corner := range q {
		x, y = min(x, corner.X), min(y, corner.Y)
	}
	return moved(q, -x, -y)
}

// turn calls TurnPolygon, which must return a result.
func turn(t *testing.T, p []impl.Point, by int64) []impl.Point {
	t.Helper()
	q, code := impl.TurnPolygon(p, by)
	if code != impl.OK || len(q) != len(p) {
		t.Fatalf("TurnPolygon(%v, %d) is %v, %d", p, by, q, code)
	}
	return q
}

// TestTurningKeepsAreaAndBorder is promise 4.
func TestTurningKeepsAreaAndBorder(t *testing.T) {
	for _, p := range append(goodPolygons(), smallPolygons()...) {
		area, _ := impl.AreaTwice(p)
		border, _ := impl.PerimeterOf(p)
		straight := turn(t, p, 0)
		for by := range int64(8) {
			q := turn(t, p, by)
			if !impl.ValidPolygon(q) || !slices.Equal(q, turnedPolygonAsTold(p, by)) {
				t.Fatalf("TurnPolygon(%v, %d) is %v", p, by, q)
			}
			if low, _, code := impl.BoundsOf(q); low != pt(0, 0) || code != impl.OK {
				t.Fatalf("%v turned by %d begins at %v, %d", p, by, low, code)
			}
			if got, code := impl.AreaTwice(q); got != area || code != impl.OK {
				t.Fatalf("%v has the doubled area %d, and %d turned by %d", p, area, got, by)
			}
			if got, code := impl.PerimeterOf(q); got != border || code != impl.OK {
				t.Fatalf("%v has the border %d, and %d turned by %d", p, border, got, by)
			}
			if impl.IsConvex(q) != impl.IsConvex(p) {
				t.Fatalf("%v is convex or not, depending on the turn %d", p, by)
			}
			back, _ := impl.InverseTurn(by)
			if r := turn(t, q, back); !slices.Equal(r, straight) || !impl.SamePolygon(r, straight) {
				t.Fatalf("%v turned by %d and back by %d is %v", p, by, back, r)
			}
		}
	}
}

func TestTurnsFollowOneAnother(t *testing.T) {
	for _, p := range goodPolygons() {
		for a := range int64(8) {
			for b := range int64(8) {
				if got, want := turn(t, turn(t, p, a), b), turn(t, p, compose(t, a, b)); !slices.Equal(got, want) {
					t.Errorf("%v turned by %d and %d is %v, want %v", p, a, b, got, want)
				}
			}
		}
	}
}

func TestTurnsOf(t *testing.T) {
	for _, c := range []struct {
		text string
		want []int64
	}{
		{"5,5 9,5 9,9 5,9", []int64{0, 1, 2, 3, 4, 5, 6, 7}}, {"5,0 10,5 5,10 0,5", []int64{0, 1, 2, 3, 4, 5, 6, 7}}, {"3,0 6,0 6,3 9,3 9,6 6,6 6,9 3,9 3,6 0,6 0,3 3,3", []int64{0, 1, 2, 3, 4, 5, 6, 7}},
		{"0,0 9,0 9,4 0,4", []int64{0, 2, 4, 6}}, {"7,1 11,1 11,10 7,10", []int64{0, 2, 4, 6}}, {"5,0 10,7 5,14 0,7", []int64{0, 2, 4, 6}},
		{"0,0 9,0 0,9", []int64{0, 7}}, {"0,0 9,0 9,9", []int64{0, 5}}, {"9,0 9,9 0,9", []int64{0, 7}}, {"0,0 9,9 0,9", []int64{0, 5}}, {"0,0 8,0 4,4", []int64{0, 4}}, {"0,0 8,0 4,9", []int64{0, 4}}, {"0,4 9,0 9,8", []int64{0, 6}},
		{"0,0 90,0 90,30 30,30 30,60 0,60", []int64{0}}, {"7,3 12,5 9,11", []int64{0}}, {"0,0 4,1 5,5 1,4", []int64{0, 2, 5, 7}}, {"0,0 5,0 8,3 3,3", []int64{0, 2}},
		{"2,0 4,0 4,1 6,1 6,4 5,4 5,6 3,6 3,5 0,5 0,2 2,2", []int64{0}}, {"2,0 4,0 4,2 6,2 6,3 3,3 3,5 1,5 1,3 0,3 0,1 2,1", []int64{0}}, {"1,0 3,0 3,1 4,1 4,3 3,3 3,4 1,4 1,3 0,3 0,1 1,1", []int64{0, 1, 2, 3, 4, 5, 6, 7}},
		{"0,0 2,0 2,1 3,1 3,3 1,3 1,2 0,2", []int64{0, 2, 5, 7}}, {"1,0 4,2 3,5 0,3", []int64{0, 2}}, {"1,0 4,1 3,4 0,3", []int64{0, 1, 2, 3}}, {"0,0 3,0 3,1 1,1 1,3 0,3", []int64{0, 7}},
		// Points on a straight edge are points of the polygon: a symmetric one must have their images, too.
		{"0,0 4,0 8,0 8,8 0,8", []int64{0, 4}}, {"0,0 3,0 8,0 8,8 0,8", []int64{0}}, {"0,0 8,0 8,4 8,8 0,8", []int64{0, 6}}, {"0,0 4,0 8,0 8,8 4,8 0,8", []int64{0, 2, 4, 6}}, {"0,0 4,0 8,0 8,4 8,8 4,8 0,8 0,4", []int64{0, 1, 2, 3, 4, 5, 6, 7}},
		{"0,0 3,0 8,0 8,3 8,8 5,8 0,8 0,5", []int64{0, 1, 2, 3}}, {"0,0 3,0 8,0 8,8 0,8 0,3", []int64{0, 7}}, {"0,0 3,0 8,0 8,8 5,8 0,8", []int64{0, 2}}, {"0,0 4,0 9,0 0,9", []int64{0}},
		{"0,0 20000,0 20000,20000 0,20000", []int64{0, 1, 2, 3, 4, 5, 6, 7}}, {"0,0 20000,0 0,20000", []int64{0, 7}}, {"0,0 20000,0 20000,19999 0,19999", []int64{0, 2, 4, 6}}, {"0,0 20000,19999 20000,20000", []int64{0}},
	} {
		p := poly(c.text)
		for k := range p {
			if got, code := impl.TurnsOf(slices.Concat(p[k:], p[:k])); !slices.Equal(got, c.want) || code != impl.OK {
				t.Errorf("TurnsOf(%v) from %d is %v, %d, want %v", p, k, got, code, c.want)
			}
		}
	}
}

// TestTurnsOfAPolygonFormAGroup also compares with the words of the document.
func TestTurnsOfAPolygonFormAGroup(t *testing.T) {
	for _, p := range append(goodPolygons(), smallPolygons()...) {
		got, code := impl.TurnsOf(p)
		var want []int64
		for by := range int64(8) {
			if impl.SamePolygon(turn(t, p, by), turn(t, p, 0)) {
				want = append(want, by)
			}
		}
		if !slices.Equal(got, want) || code != impl.OK {
			t.Fatalf("TurnsOf(%v) is %v, %d, want %v", p, got, code, want)
		}
		for _, a := range got {
			for _, b := range got {
				if !slices.Contains(got, compose(t, a, b)) {
					t.Fatalf("the turns %v of %v are no group", got, p)
				}
			}
		}
	}
}

func TestChangesRefuse(t *testing.T) {
	forBadPolygons(func(reason string, p []impl.Point) {
		for _, n := range []int64{0, 1, 4, -1, 8, most + 1, math.MinInt64, math.MaxInt64} {
			if got, code := impl.StartAt(p, n); len(got) != 0 || code != impl.ErrInvalid {
				t.Errorf("StartAt(%v, %d) is %v, %d: %s", p, n, got, code, reason)
			}
			if got, code := impl.ShiftPolygon(p, n, 0); len(got) != 0 || code != impl.ErrInvalid {
				t.Errorf("ShiftPolygon(%v, %d, 0) is %v, %d: %s", p, n, got, code, reason)
			}
			if got, code := impl.ShiftPolygon(p, 0, n); len(got) != 0 || code != impl.ErrInvalid {
				t.Errorf("ShiftPolygon(%v, 0, %d) is %v, %d: %s", p, n, got, code, reason)
			}
			if got, code := impl.TurnPolygon(p, n); len(got) != 0 || code != impl.ErrInvalid {
				t.Errorf("TurnPolygon(%v, %d) is %v, %d: %s", p, n, got, code, reason)
			}
		}
		if got, code := impl.TurnsOf(p); len(got) != 0 || code != impl.ErrInvalid {
			t.Errorf("TurnsOf(%v) is %v, %d: %s", p, got, code, reason)
		}
	})
}
