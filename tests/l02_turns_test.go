package tests

import (
	"math"
	"testing"

	"loop.example/g00956/impl"
)

// noTurns are numbers that are no turn.
var noTurns = []int64{math.MinInt64, math.MinInt64 + 1, -8, -4, -2, -1, 8, 9, 12, 16, 1 << 32, math.MaxInt64 - 1, math.MaxInt64}

// turnable are points with coordinates from -MaxCoordinate to MaxCoordinate.
func turnable() []impl.Point {
	var points []impl.Point
	for _, x := range []int64{-most, 1 - most, -7, -1, 0, 1, 5, most - 1, most} {
		for _, y := range []int64{-most, -12345, -7, 0, 1, 2, 5, most} {
			points = append(points, pt(x, y))
		}
	}
	return points
}

// turnedAsTold follows the words of the document one quarter turn after the other.
func turnedAsTold(p impl.Point, turn int64) impl.Point {
	if turn >= 4 {
		p.X = -p.X
	}
	for range turn % 4 {
		p.X, p.Y = -p.Y, p.X
	}
	return p
}

func TestTurned(t *testing.T) {
	for turn, want := range []impl.Point{pt(5, 2), pt(-2, 5), pt(-5, -2), pt(2, -5), pt(-5, 2), pt(-2, -5), pt(5, -2), pt(2, 5)} {
		if got := impl.Turned(pt(5, 2), int64(turn)); got != want {
			t.Errorf("the turn %d leads from 5, 2 to %v, want %v", turn, got, want)
		}
	}
	if got := impl.Turned(pt(5, 0), 1); got != pt(0, 5) {
		t.Errorf("the turn 1 leads from 5, 0 to %v", got)
	}
	if got := impl.Turned(pt(5, 0), 4); got != pt(-5, 0) {
		t.Errorf("the turn 4 leads from 5, 0 to %v", got)
	}
	for _, p := range turnable() {
		for turn := range int64(8) {
			if got, want := impl.Turned(p, turn), turnedAsTold(p, turn); got != want {
				t.Errorf("Turned(%v, %d) is %v, want %v", p, turn, got, want)
			}
		}
	}
}

func TestTurnedRefuses(t *testing.T) {
	for _, p := range turnable() {
		for _, turn := range noTurns {
			if got := impl.Turned(p, turn); got != pt(0, 0) {
				t.Errorf("Turned(%v, %d) is %v", p, turn, got)
			}
		}
	}
	for _, n := range []int64{math.MinInt64, math.MinInt64 + 1, -most - 1, most + 1, math.MaxInt64 - 1, math.MaxInt64} {
		for _, p := range []impl.Point{pt(n, 0), pt(0, n), pt(n, 3), pt(-3, n), pt(n, most), pt(-most, n), pt(n, n)} {
			for turn := int64(-1); turn <= 8; turn++ {
				if got := impl.Turned(p, turn); got != pt(0, 0) {
					t.Errorf("Turned(%v, %d) is %v", p, turn, got)
				}
			}
		}
	}
}

func TestInverseTurn(t *testing.T) {
	for turn, want := range []int64{0, 3, 2, 1, 4, 5, 6, 7} {
		got, code := impl.InverseTurn(int64(turn))
		if got != want || code != impl.OK {
			t.Errorf("InverseTurn(%d) is %d, %d, want %d", turn, got, code, want)
		}
		for _, p := range turnable() {
			if back := impl.Turned(impl.Turned(p, int64(turn)), got); back != p {
				t.Errorf("the turns %d and %d lead from %v to %v", turn, got, p, back)
			}
		}
	}
	for _, turn := range noTurns {
		if got, code := impl.InverseTurn(turn); got != 0 || code != impl.ErrRange {
			t.Errorf("InverseTurn(%d) is %d, %d", turn, got, code)
		}
	}
}

func TestComposeTurns(t *testing.T) {
	for _, c := range [][3]int64{
		{0, 0, 0}, {1, 1, 2}, {1, 2, 3}, {1, 3, 0}, {2, 2, 0}, {3, 3, 2}, {1, 4, 7}, {4, 1, 5}, {4, 4, 0}, {5, 4, 3}, {4, 5, 1}, {2, 4, 6}, {4, 2, 6}, {7, 7, 0}, {6, 3, 5}, {3, 6, 7},
	} {
		if got, code := impl.ComposeTurns(c[0], c[1]); got != c[2] || code != impl.OK {
			t.Errorf("ComposeTurns(%d, %d) is %d, %d, want %d", c[0], c[1], got, code, c[2])
		}
	}
	for a := range int64(8) {
		for b := range int64(8) {
			both, code := impl.ComposeTurns(a, b)
			if code != impl.OK || both < 0 || both > 7 {
				t.Errorf("ComposeTurns(%d, %d) is %d, %d", a, b, both, code)
			}
			for _, p := range turnable() {
				if got, want := impl.Turned(p, both), impl.Turned(impl.Turned(p, a), b); got != want {
					t.Errorf("the turn %d leads from %v to %v, but %d and then %d to %v", both, p, got, a, b, want)
				}
			}
		}
	}
}

func TestComposeTurnsRefuses(t *testing.T) {
	check := func(a, b int64) {
		if got, code := impl.ComposeTurns(a, b); got != 0 || code != impl.ErrRange {
			t.Errorf("ComposeTurns(%d, %d) is %d, %d", a, b, got, code)
		}
	}
	for _, no := range noTurns {
		for turn := range int64(8) {
			check(no, turn)
			check(turn, no)
		}
		for _, other := range noTurns {
			check(no, other)
		}
	}
}

func compose(t *testing.T, a, b int64) int64 {
	t.Helper()
	both, code := impl.ComposeTurns(a, b)
	if code != impl.OK {
		t.Fatalf("ComposeTurns(%d, %d) returns the code %d", a, b, code)
	}
	return both
}

func TestTurnsFormAGroup(t *testing.T) {
	for a := range int64(8) {
		if compose(t, a, 0) != a || compose(t, 0, a) != a {
			t.Errorf("the turn 0 changes the turn %d", a)
		}
		back, _ := impl.InverseTurn(a)
		if compose(t, a, back) != 0 || compose(t, back, a) != 0 {
			t.Errorf("the turn %d does not lead back from %d", back, a)
		}
		reached := map[int64]bool{}
		for b := range int64(8) {
			reached[compose(t, a, b)] = true
			for c := range int64(8) {
				if compose(t, compose(t, a, b), c) != compose(t, a, compose(t, b, c)) {
					t.Errorf("the turns %d, %d and %d depend on how they are joined", a, b, c)
				}
			}
		}
		if len(reached) != 8 {
			t.Errorf("only %d turns are reached from %d", len(reached), a)
		}
	}
}

func TestPointText(t *testing.T) {
	for want, p := range map[string]impl.Point{
		"0,0": pt(0, 0), "3,4": pt(3, 4), "10,0": pt(10, 0), "0,20000": pt(0, most), "20000,0": pt(most, 0), "20000,20000": pt(most, most), "19999,7": pt(most-1, 7),
	} {
		if got := impl.PointText(p); got != want {
			t.Errorf("PointText(%v) is %q, want %q", p, got, want)
		}
	}
	for _, p := range badPoints() {
		if got := impl.PointText(p); got != "" {
			t.Errorf("PointText(%v) is %q", p, got)
		}
	}
}

func TestPointsAreReadBack(t *testing.T) {
	for _, p := range append(grid(25), farPoints...) {
		if got, ok := impl.ReadPoint(impl.PointText(p)); got != p || !ok {
			t.Errorf("%v is written %q and read as %v, %v", p, impl.PointText(p), got, ok)
		}
	}
}

func TestReadPointRefuses(t *testing.T) {
	texts := []string{
		"", ",", ",,", "3", "3,", ",4", "3,4,", ",3,4", "3,,4", "3,4,5", "0,0,0", "3 4", "3, 4", "3 ,4", " 3,4", "3,4 ", "3,4\n", "3\t,4", "3;4", "(3,4)",
		"03,4", "3,04", "00,0", "0,00", "-0,4", "3,-0", "-0,-0", "-1,4", "3,-1", "-,-", "-,4", "3,-", "+3,4", "3,+4", "20001,0", "0,20001", "20001,20001",
		"-20000,0", "0,-20000", "1e3,0", "0x3,4", "3.0,4", "a,b", "3,4\x00", "\x003,4", "\xff,\xff", "9223372036854775807,0", "0,-9223372036854775808",
		"18446744073709551616,0", "18446744073709551619,4", "0,99999999999999999999999",
	}
	for _, s := range append(notDecimal, oddTexts()...) {
		texts = append(texts, s, s+s)
		if s != "0" {
			texts = append(texts, s+",4", "3,"+s)
		}
	}
	for _, s := range texts {
		if got, ok := impl.ReadPoint(s); got != pt(0, 0) || ok {
			t.Errorf("ReadPoint(%q) is %v, %v", s, got, ok)
		}
	}
}

// TestReadPointsAreWrittenBack tries all short texts of telling bytes: one that is read must be what is written.
func TestReadPointsAreWrittenBack(t *testing.T) {
	texts, read := []string{""}, 0
	for first := 0; len(texts[first]) < 5; first++ {
		for _, c := range "-,0 2" {
			texts = append(texts, texts[first]+string(c))
		}
	}
	for _, s := range texts {
		if p, ok := impl.ReadPoint(s); ok {
			read++
			if impl.PointText(p) != s {
				t.Errorf("%q is read as %v", s, p)
			}
		}
	}
	// Of 0 and 2 there are 2 numbers with one digit, 2 with two and 4 with three; the lengths are 1 and 1, 1 and 2, 1 and 3, 2 and 2.
	if read != 2*2+2*(2*2)+2*(2*4)+2*2 {
		t.Errorf("%d points are read", read)
	}
}
