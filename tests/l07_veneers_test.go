package tests

import (
	"fmt"
	"math"
	"slices"
	"testing"

	"loop.example/g00956/impl"
)

func TestGrainAngle(t *testing.T) {
	for _, c := range []struct{ a, b, want int64 }{
		{10, 170, 20}, {0, 90, 90}, {20, 20, 0}, {0, 0, 0}, {0, 1, 1}, {0, 179, 1}, {179, 0, 1}, {0, 89, 89}, {0, 91, 89}, {45, 135, 90}, {44, 135, 89}, {45, 136, 89}, {1, 179, 2}, {90, 179, 89}, {90, 0, 90}, {179, 179, 0}, {100, 9, 89}, {170, 80, 90},
	} {
		if got, code := impl.GrainAngle(c.a, c.b); got != c.want || code != impl.OK {
			t.Errorf("GrainAngle(%d, %d) is %d, %d, want %d", c.a, c.b, got, code, c.want)
		}
	}
}

// angleAsTold goes from both directions on until one reaches the other.
func angleAsTold(a, b int64) int64 {
	angle := int64(0)
	for (a+angle)%180 != b && (b+angle)%180 != a {
		angle++
	}
	return angle
}

// TestAnglesAreMutual is promise 8 for angles, with all pairs of directions.
func TestAnglesAreMutual(t *testing.T) {
	for a := range int64(impl.HalfTurn) {
		for b := range int64(impl.HalfTurn) {
			there, code := impl.GrainAngle(a, b)
			back, backCode := impl.GrainAngle(b, a)
			if there != angleAsTold(a, b) || there != back || there < 0 || there > 90 || (there == 0) != (a == b) || code != impl.OK || backCode != impl.OK {
				t.Fatalf("GrainAngle(%d, %d) is %d, %d, and in the other order %d, %d", a, b, there, code, back, backCode)
			}
		}
	}
	for _, far := range farNumbers {
		for _, n := range []int64{0, 1, 90, 179, far, -1, 180} {
			for _, pair := range [][2]int64{{far, n}, {n, far}} {
				if got, code := impl.GrainAngle(pair[0], pair[1]); got != 0 || code != impl.ErrRange {
					t.Errorf("GrainAngle(%d, %d) is %d, %d", pair[0], pair[1], got, code)
				}
			}
		}
	}
}

func TestTurnGrain(t *testing.T) {
	for _, c := range []struct {
		grain int64
		want  [8]int64
	}{
		{30, [8]int64{30, 120, 30, 120, 150, 60, 150, 60}}, {0, [8]int64{0, 90, 0, 90, 0, 90, 0, 90}}, {90, [8]int64{90, 0, 90, 0, 90, 0, 90, 0}}, {45, [8]int64{45, 135, 45, 135, 135, 45, 135, 45}},
		{179, [8]int64{179, 89, 179, 89, 1, 91, 1, 91}}, {1, [8]int64{1, 91, 1, 91, 179, 89, 179, 89}}, {100, [8]int64{100, 10, 100, 10, 80, 170, 80, 170}},
	} {
		for turn, want := range c.want {
			if got, code := impl.TurnGrain(c.grain, int64(turn)); got != want || code != impl.OK {
				t.Errorf("TurnGrain(%d, %d) is %d, %d, want %d", c.grain, turn, got, code, want)
			}
		}
	}
	for _, grain := range append(farNumbers, 0, 1, 90, 179) {
		for _, turn := range append(farNumbers, 0, 3, 4, 7, 8, 9) {
			grainIsOne, turnIsOne := 0 <= grain && grain < 180, 0 <= turn && turn < 8
			if got, code := impl.TurnGrain(grain, turn); (code == impl.OK) != (grainIsOne && turnIsOne) || code != impl.OK && (got != 0 || code != impl.ErrRange) {
				t.Errorf("TurnGrain(%d, %d) is %d, %d", grain, turn, got, code)
			}
		}
	}
}

func turnedGrain(t *testing.T, grain, turn int64) int64 {
	t.Helper()
	turned, code := impl.TurnGrain(grain, turn)
	if code != impl.OK || turned < 0 || turned > 179 {
		t.Fatalf("TurnGrain(%d, %d) is %d, %d", grain, turn, turned, code)
	}
	return turned
}

// TestTurningGrainBack is promise 8 for turns, with all directions and all turns.
func TestTurningGrainBack(t *testing.T) {
	for grain := range int64(impl.HalfTurn) {
		for a := range int64(8) {
			turned := turnedGrain(t, grain, a)
			back, _ := impl.InverseTurn(a)
			if again := turnedGrain(t, turned, back); again != grain {
				t.Errorf("the turn %d leads from %d to %d, and %d back to %d", a, grain, turned, back, again)
			}
			for b := range int64(8) {
				if both := turnedGrain(t, grain, compose(t, a, b)); turnedGrain(t, turned, b) != both {
					t.Errorf("the turns %d and %d lead from %d to %d, but as one to %d", a, b, grain, turnedGrain(t, turned, b), both)
				}
			}
			for other := range int64(impl.HalfTurn) {
				before, _ := impl.GrainAngle(grain, other)
				if after, _ := impl.GrainAngle(turned, turnedGrain(t, other, a)); after != before {
					t.Errorf("the turn %d changes the angle of %d and %d from %d to %d", a, grain, other, before, after)
				}
			}
		}
	}
}

// TestGrainTurnsAsPointsDo compares with the turns of chapter 2: the grain goes with the line from 0, 0 to a point, whose other end is no other direction.
func TestGrainTurnsAsPointsDo(t *testing.T) {
	directions := map[impl.Point]int64{pt(7, 0): 0, pt(7, 7): 45, pt(0, 7): 90, pt(-7, 7): 135}
	for p, grain := range directions {
		for turn := range int64(8) {
			q := impl.Turned(p, turn)
			want, found := directions[q]
			if !found {
				want = directions[pt(-q.X, -q.Y)]
			}
			if got := turnedGrain(t, grain, turn); got != want {
				t.Errorf("the turn %d leads from %v to %v, but TurnGrain from %d to %d", turn, p, q, grain, got)
			}
		}
	}
}

func TestContrastOf(t *testing.T) {
	for _, c := range []struct {
		a, b impl.Veneer
		want int64
	}{
		{veneer("oak", 40, 0), veneer("ash", 20, 90), 35}, {veneer("oak", 40, 0), veneer("oak", 40, 0), 0}, {veneer("oak", 40, 0), veneer("oak", 41, 0), 1}, {veneer("oak", 25, 0), veneer("oak", 55, 90), 45}, {veneer("oak", 40, 7), veneer("beech", 40, 7), 0},
		// The angle is divided by 6 and rounded towards zero.
		{veneer("oak", 40, 0), veneer("oak", 40, 5), 0}, {veneer("oak", 40, 0), veneer("oak", 40, 6), 1}, {veneer("oak", 40, 0), veneer("oak", 40, 11), 1}, {veneer("oak", 40, 0), veneer("oak", 40, 12), 2}, {veneer("oak", 40, 0), veneer("oak", 40, 89), 14}, {veneer("oak", 40, 0), veneer("oak", 40, 179), 0},
		{veneer("oak", 40, 0), veneer("oak", 40, 174), 1}, {veneer("oak", 40, 3), veneer("oak", 40, 177), 1}, {veneer("oak", 40, 0), veneer("oak", 40, 91), 14}, {veneer("holly", 0, 45), veneer("ebony", 100, 135), 115}, {veneer("holly", 0, 45), veneer("ebony", 100, 45), 100},
	} {
		if got, code := impl.ContrastOf(c.a, c.b); got != c.want || code != impl.OK {
			t.Errorf("ContrastOf(%v, %v) is %d, %d, want %d", c.a, c.b, got, code, c.want)
		}
	}
}

// TestContrastsAreMutual is promise 8 for contrasts.
func TestContrastsAreMutual(t *testing.T) {
	all := goodVeneers()
	for _, a := range all {
		for _, b := range all {
			there, code := impl.ContrastOf(a, b)
			back, backCode := impl.ContrastOf(b, a)
			want := magnitudeOf(a.Shade-b.Shade) + angleAsTold(a.Grain, b.Grain)/6
			if there != want || there != back || there > 115 || code != impl.OK || backCode != impl.OK {
				t.Fatalf("ContrastOf(%v, %v) is %d, %d, and in the other order %d, %d, want %d", a, b, there, code, back, backCode, want)
			}
		}
	}
	for _, bad := range badVeneers() {
		for _, v := range []impl.Veneer{veneer("oak", 40, 0), bad, {}} {
			for _, pair := range [][2]impl.Veneer{{bad, v}, {v, bad}} {
				if got, code := impl.ContrastOf(pair[0], pair[1]); got != 0 || code != impl.ErrInvalid {
					t.Errorf("ContrastOf(%.100v) is %d, %d", fmt.Sprint(pair), got, code)
				}
			}
		}
	}
}

func TestWithShade(t *testing.T) {
	for _, c := range []struct {
		v           impl.Veneer
		shade, code int64
	}{
		{veneer("oak", 40, 7), 55, impl.OK}, {veneer("oak", 40, 7), 56, impl.ErrState}, {veneer("oak", 40, 7), 25, impl.OK}, {veneer("oak", 40, 7), 24, impl.ErrState}, {veneer("oak", 55, 7), 25, impl.OK}, {veneer("oak", 40, 7), 40, impl.OK}, {veneer("oak", 40, 7), 0, impl.ErrState}, {veneer("oak", 40, 7), 100, impl.ErrState},
		{veneer("oak", 40, 7), 101, impl.ErrRange}, {veneer("oak", 40, 7), -1, impl.ErrRange}, {veneer("holly", 5, 0), 0, impl.OK}, {veneer("holly", 5, 0), -1, impl.ErrRange}, {veneer("ebony", 95, 0), 100, impl.OK}, {veneer("ebony", 95, 0), 101, impl.ErrRange}, {veneer("oak", 56, 7), 40, impl.ErrInvalid},
		{veneer("oak", 56, 7), 101, impl.ErrInvalid}, {veneer("pine", 40, 7), -1, impl.ErrInvalid}, {veneer("oak", 40, 180), 40, impl.ErrInvalid}, {impl.Veneer{}, 0, impl.ErrInvalid},
	} {
		checkWithShade(t, c.v, c.shade, c.code)
	}
	for _, v := range goodVeneers() {
		species, _, _, _ := impl.SpeciesData(v.Species)
		for shade := int64(-20); shade <= 120; shade++ {
			code := int64(impl.OK)
			if shade < 0 || shade > 100 {
				code = impl.ErrRange
			} else if magnitudeOf(shade-species) > 15 {
				code = impl.ErrState
			}
			checkWithShade(t, v, shade, code)
		}
		for _, shade := range farNumbers {
			checkWithShade(t, v, shade, impl.ErrRange)
		}
	}
	for _, v := range badVeneers() {
		for _, shade := range append(farNumbers, 0, 40, 100, 101) {
			checkWithShade(t, v, shade, impl.ErrInvalid)
		}
	}
}

func checkWithShade(t *testing.T, v impl.Veneer, shade, want int64) {
	t.Helper()
	got, code := impl.WithShade(v, shade)
	if code != want || code != impl.OK && got != (impl.Veneer{}) || code == impl.OK && got != veneer(v.Species, shade, v.Grain) {
		t.Errorf("WithShade(%.100v, %d) is %v, %d, want the code %d", v, shade, got, code, want)
	}
}

// shaded returns veneers with shades from 0 to 100.
func shaded(shades ...int64) []impl.Veneer {
	var list []impl.Veneer
	for k, shade := range shades {
		place := slices.IndexFunc(woods, func(w wood) bool { return magnitudeOf(w.shade-shade) <= 15 })
		list = append(list, veneer(woods[place].name, shade, int64(k)))
	}
	return list
}

func checkMean(t *testing.T, list []impl.Veneer, want, wantCode int64) {
	t.Helper()
	if got, code := impl.MeanShade(list); got != want || code != wantCode {
		t.Errorf("MeanShade(%.300v) is %d, %d, want %d, %d", fmt.Sprint(list), got, code, want, wantCode)
	}
}

func TestMeanShade(t *testing.T) {
	for _, c := range []struct {
		shades []int64
		want   int64
	}{
		{[]int64{40}, 40}, {[]int64{0}, 0}, {[]int64{100}, 100}, {[]int64{0, 0, 0}, 0}, {[]int64{100, 100}, 100}, {[]int64{40, 20}, 30}, {[]int64{0, 100}, 50},
		// A half is rounded up, less is rounded down.
		{[]int64{40, 21}, 31}, {[]int64{0, 1}, 1}, {[]int64{0, 0, 1}, 0}, {[]int64{0, 1, 1}, 1}, {[]int64{0, 0, 0, 1}, 0}, {[]int64{0, 0, 1, 1}, 1}, {[]int64{99, 100}, 100}, {[]int64{99, 99, 100}, 99}, {[]int64{10, 11, 11, 12, 12}, 11}, {[]int64{10, 11, 11, 12, 14}, 12},
	} {
		checkMean(t, shaded(c.shades...), c.want, impl.OK)
		slices.Reverse(c.shades)
		checkMean(t, shaded(c.shades...), c.want, impl.OK)
	}
	checkMean(t, nil, 0, impl.ErrState)
	checkMean(t, []impl.Veneer{}, 0, impl.ErrState)
	checkMean(t, make([]impl.Veneer, 0, 70), 0, impl.ErrState)
}

// TestMeanShadeCounts has as many veneers as there may be, and more; those with one that is not valid are refused first, wherever it stands.
func TestMeanShadeCounts(t *testing.T) {
	for _, n := range []int{1, 2, 3, 63, 64, 65, 66, 128, 1000} {
		var shades []int64
		sum := int64(0)
		for k := range n {
			shades = append(shades, int64(k*k*7%101))
			sum += shades[k]
		}
		list := shaded(shades...)
		for k := range list {
			list[k].Grain %= 180
		}
		if n > 64 {
			checkMean(t, list, 0, impl.ErrFull)
		} else {
			checkMean(t, list, (2*sum+int64(n))/(2*int64(n)), impl.OK)
		}
		for _, place := range []int{0, 1, n / 2, 62, 63, 64, n - 1} {
			for m, bad := range badVeneers() {
				if place < n && (m%37 == 0 || n < 4) {
					kept := list[place]
					list[place] = bad
					checkMean(t, list, 0, impl.ErrInvalid)
					list[place] = kept
				}
			}
		}
	}
	checkMean(t, make([]impl.Veneer, 65), 0, impl.ErrInvalid)
	checkMean(t, make([]impl.Veneer, 100000), 0, impl.ErrInvalid)
	checkMean(t, slices.Repeat(shaded(40), 100000), 0, impl.ErrFull)
	checkMean(t, slices.Repeat(shaded(100), 64), 100, impl.OK)
	checkMean(t, []impl.Veneer{veneer("oak", 40, 0), veneer("oak", 40, math.MinInt64)}, 0, impl.ErrInvalid)
}
