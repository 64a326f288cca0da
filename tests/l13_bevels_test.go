package tests

import (
	"fmt"
	"math"
	"slices"
	"strings"
	"testing"

	"loop.example/g00956/impl"
)

func TestLimitsOfKerf(t *testing.T) {
	if limits := []int64{impl.MaxThickness, impl.MaxKerf, impl.MaxBevel}; !slices.Equal(limits, []int64{1000, 200, 30}) {
		t.Errorf("limits %v", limits)
	}
}

func checkNumber(t *testing.T, what string, got, code, want, wantCode int64) {
	t.Helper()
	if got != want || code != wantCode {
		t.Fatalf("%s is %d, %d, want %d, %d", what, got, code, want, wantCode)
	}
}

func TestTanOf(t *testing.T) {
	if len(tanTable) != 31 {
		t.Fatalf("%d tangents", len(tanTable))
	}
	for degrees, want := range tanTable {
		got, code := impl.TanOf(int64(degrees))
		checkNumber(t, fmt.Sprint("TanOf ", degrees), got, code, want, impl.OK)
		if exact := math.Tan(float64(degrees)*math.Pi/180) * 10000; math.Abs(exact-float64(got)) > 0.5 {
			t.Errorf("the tangent of %d is %f, and not %d", degrees, exact, got)
		}
	}
	for _, degrees := range noBevels {
		got, code := impl.TanOf(degrees)
		checkNumber(t, fmt.Sprint("TanOf ", degrees), got, code, 0, impl.ErrRange)
	}
}

func checkGap(t *testing.T, thickness, kerf, degrees, want, wantCode int64) {
	t.Helper()
	got, code := impl.BevelGap(thickness, kerf, degrees)
	checkNumber(t, fmt.Sprint("BevelGap of ", thickness, " ", kerf, " ", degrees), got, code, want, wantCode)
}

func TestBevelGap(t *testing.T) {
	for _, c := range [][4]int64{
		{90, 16, 10, 0}, {90, 16, 0, 16}, {90, 16, 12, -3}, {90, 16, 30, -36}, {90, 0, 0, 0}, {90, 0, 1, -2}, {100, 16, 10, -2}, {1, 0, 0, 0}, {1000, 0, 30, -577}, {1000, 200, 0, 200}, {1000, 200, 30, -377}, {1, 200, 30, 199}, {1, 200, 26, 200},
		// Halves: the part is wider by the greater number, 3.5 as 4, 17.5 as 18, 52.5 as 53, and 0.5 as 1.
		{200, 16, 1, 12}, {1000, 16, 1, -2}, {600, 100, 5, 47}, {1000, 88, 5, 0}, {1000, 87, 5, -1}, {1000, 141, 8, 0}, {1000, 140, 8, -1}, {125, 1, 20, -45}, {200, 0, 1, -4}, {40, 2, 1, 1}, {1000, 0, 5, -88}, {1000, 0, 20, -364}, {250, 91, 20, 0},
		// Just below and above a half.
		{199, 16, 1, 13}, {201, 16, 1, 12}, {28, 0, 1, 0}, {29, 0, 1, -1}, {1, 0, 26, 0}, {1, 0, 27, -1}, {999, 18, 1, 1}, {999, 88, 5, 1},
	} {
		checkGap(t, c[0], c[1], c[2], c[3], impl.OK)
	}
	for thickness := int64(1); thickness <= impl.MaxThickness; thickness++ {
		for degrees := range int64(31) {
			for _, kerf := range []int64{0, 1, 16, 100, 199, 200} {
				checkGap(t, thickness, kerf, degrees, bevelGapAsTold(thickness, kerf, degrees), impl.OK)
			}
			// What is subtracted is also the one of chapter 1.
			tangent, _ := impl.TanOf(degrees)
			checkGap(t, thickness, 50, degrees, 50-impl.DivRound(thickness*tangent, 10000), impl.OK)
		}
	}
	for kerf := range int64(201) {
		checkGap(t, 90, kerf, 10, kerf-16, impl.OK)
	}
}

// forWrongCuts calls check with a number that is not as stated, alone, and with others that are not; wrong has the letters t, k, d and a for those of the thickness, the kerf, the degrees and the tolerance.
func forWrongCuts(check func(thickness, kerf, degrees, tolerance int64, wrong string)) {
	for _, good := range [][4]int64{{90, 16, 10, 2}, {1, 0, 0, 0}, {1000, 200, 30, 200}} {
		for _, n := range noThicknesses {
			check(n, good[1], good[2], good[3], "t")
			check(n, noKerfs[0], good[2], good[3], "tk")
			check(n, good[1], noBevels[4], noKerfs[4], "tda")
		}
		for _, n := range noKerfs {
			check(good[0], n, good[2], good[3], "k")
			check(good[0], good[1], good[2], n, "a")
			check(good[0], n, good[2], n, "ka")
		}
		for _, n := range noBevels {
			check(good[0], good[1], n, good[3], "d")
			check(good[0], good[1], n, noKerfs[4], "da")
		}
	}
}

// TestCutsBeyondTheirRange has each function with numbers that are not as stated, and with the same ones where it does not take them.
func TestCutsBeyondTheirRange(t *testing.T) {
	forWrongCuts(func(thickness, kerf, degrees, tolerance int64, wrong string) {
		// A function is concerned if it takes one of the wrong numbers.
		isWrong := func(taken string) bool { return strings.ContainsAny(wrong, taken) }
		what := fmt.Sprint(thickness, " ", kerf, " ", degrees, " ", tolerance)
		if isWrong("tkd") {
			checkGap(t, thickness, kerf, degrees, 0, impl.ErrRange)
		} else {
			checkGap(t, thickness, kerf, degrees, bevelGapAsTold(thickness, kerf, degrees), impl.OK)
		}
		if isWrong("tk") {
			got, code := impl.BestBevel(thickness, kerf)
			checkNumber(t, "BestBevel of "+what, got, code, 0, impl.ErrRange)
		}
		if impl.ClosesGap(thickness, kerf, degrees, tolerance) {
			t.Errorf("ClosesGap of %s is true", what)
		}
		if isWrong("tka") {
			first, last, code := impl.BevelRange(thickness, kerf, tolerance)
			checkNumber(t, "BevelRange of "+what, first, code, 0, impl.ErrRange)
			checkNumber(t, "BevelRange of "+what, last, code, 0, impl.ErrRange)
			checkCommon(t, []int64{thickness}, kerf, tolerance, 0, impl.ErrRange)
			checkCommon(t, []int64{90, thickness, 100}, kerf, tolerance, 0, impl.ErrRange)
		}
		if isWrong("ka") {
			checkCommon(t, nil, kerf, tolerance, 0, impl.ErrRange)
		}
		if isWrong("kd") {
			checkThickness(t, kerf, degrees, 0, impl.ErrRange)
		}
	})
}

// TestCutsWithinTheirRange has the least and the greatest number of each kind.
func TestCutsWithinTheirRange(t *testing.T) {
	for _, thickness := range []int64{1, 2, 999, 1000} {
		for _, kerf := range []int64{0, 1, 199, 200} {
			for _, degrees := range []int64{0, 1, 29, 30} {
				checkGap(t, thickness, kerf, degrees, bevelGapAsTold(thickness, kerf, degrees), impl.OK)
				for _, tolerance := range []int64{0, 1, 199, 200} {
					checkCloses(t, thickness, kerf, degrees, tolerance, closesAsTold(thickness, kerf, degrees, tolerance))
					checkRange(t, thickness, kerf, tolerance)
					checkCommonAsTold(t, []int64{thickness}, kerf, tolerance)
					checkCommonAsTold(t, nil, kerf, tolerance)
				}
				checkThicknessAsTold(t, kerf, degrees)
			}
			checkBestBevel(t, thickness, kerf, bestBevelAsTold(thickness, kerf))
		}
	}
}

func checkBestBevel(t *testing.T, thickness, kerf, want int64) {
	t.Helper()
	got, code := impl.BestBevel(thickness, kerf)
	checkNumber(t, fmt.Sprint("BestBevel of ", thickness, " ", kerf), got, code, want, impl.OK)
}

func TestBestBevel(t *testing.T) {
	for _, c := range [][3]int64{
		{90, 16, 10}, {200, 16, 4},
		// Several angles that close the gap fully: 0 to 2 degrees, 15 to 19, 20 to 24, and 29 and 30.
		{10, 0, 0}, {10, 3, 15}, {10, 4, 20}, {10, 6, 29}, {1, 0, 0}, {1, 1, 27}, {5, 1, 6}, {70, 20, 16},
		// A gap and its opposite: 1 at the lesser angle and -1 at the greater one.
		{100, 1, 0}, {100, 4, 2}, {100, 6, 3}, {100, 8, 4}, {100, 10, 5}, {100, 13, 7}, {200, 5, 1}, {200, 12, 3}, {1000, 0, 0},
		// A kerf that no angle closes: the least one of the angles with which the part is widest.
		{1, 200, 27}, {1, 2, 27}, {2, 200, 15}, {10, 200, 29}, {70, 200, 30}, {100, 200, 30}, {300, 200, 30},
		// A kerf of 0, the greatest kerf, and the greatest thickness.
		{90, 0, 0}, {500, 0, 0}, {1000, 200, 11}, {1000, 18, 1}, {1000, 17, 1}, {1000, 9, 0}, {1000, 8, 0}, {1000, 10, 1}, {347, 200, 30},
	} {
		checkBestBevel(t, c[0], c[1], c[2])
	}
}

// TestAllBestBevels is the first half of promise 14, for all thicknesses and kerfs.
func TestAllBestBevels(t *testing.T) {
	ties, opposites := 0, 0
	for thickness := int64(1); thickness <= impl.MaxThickness; thickness++ {
		for kerf := range int64(impl.MaxKerf + 1) {
			best, code := impl.BestBevel(thickness, kerf)
			if code != impl.OK || best < 0 || best > 30 {
				t.Fatalf("BestBevel of %d %d is %d, %d", thickness, kerf, best, code)
			}
			gap := bevelGapAsTold(thickness, kerf, best)
			for degrees := range int64(31) {
				other := bevelGapAsTold(thickness, kerf, degrees)
				if magnitudeOf(other) < magnitudeOf(gap) || magnitudeOf(other) == magnitudeOf(gap) && degrees < best {
					t.Fatalf("BestBevel of %d %d is %d with the gap %d, but %d has %d", thickness, kerf, best, gap, degrees, other)
				}
				if degrees > best && other == gap {
					ties++
				} else if degrees > best && other == -gap {
					opposites++
				}
			}
		}
	}
	if ties < 10000 || opposites < 1000 {
		t.Errorf("only %d ties, and %d with the opposite gap", ties, opposites)
	}
}

func checkCloses(t *testing.T, thickness, kerf, degrees, tolerance int64, want bool) {
	t.Helper()
	if impl.ClosesGap(thickness, kerf, degrees, tolerance) != want {
		t.Fatalf("ClosesGap of %d %d %d %d is %v", thickness, kerf, degrees, tolerance, !want)
	}
}

func TestClosesGap(t *testing.T) {
	for _, c := range []struct {
		thickness, kerf, degrees, tolerance int64
		want                                bool
	}{
		// A gap of exactly the tolerance, and of one more, on both sides of 0.
		{90, 16, 9, 2, true}, {90, 16, 9, 1, false}, {90, 16, 11, 1, true}, {90, 16, 11, 0, false}, {90, 16, 12, 3, true}, {90, 16, 12, 2, false}, {90, 16, 10, 0, true}, {90, 16, 0, 16, true}, {90, 16, 0, 15, false}, {90, 16, 30, 36, true}, {90, 16, 30, 35, false},
		{1, 200, 0, 200, true}, {1, 200, 0, 199, false}, {1, 200, 30, 199, true}, {1, 200, 30, 198, false}, {1000, 0, 30, 200, false}, {1000, 0, 11, 194, true}, {1000, 0, 11, 193, false}, {1000, 200, 21, 184, true}, {1000, 200, 21, 183, false}, {1000, 200, 22, 200, false}, {1, 0, 0, 0, true}, {1, 0, 26, 0, true}, {1, 0, 27, 0, false},
	} {
		checkCloses(t, c.thickness, c.kerf, c.degrees, c.tolerance, c.want)
	}
	for thickness := int64(1); thickness <= impl.MaxThickness; thickness += 7 {
		for kerf := thickness % 3; kerf <= impl.MaxKerf; kerf += 3 {
			for degrees := range int64(31) {
				exact := magnitudeOf(bevelGapAsTold(thickness, kerf, degrees))
				for _, tolerance := range []int64{exact - 1, exact, exact + 1} {
					// A tolerance beyond its limits closes nothing.
					checkCloses(t, thickness, kerf, degrees, tolerance, 0 <= tolerance && tolerance <= 200 && exact <= tolerance)
				}
			}
		}
	}
}

// checkRange is the second half of promise 14: just the angles of the range close the gap.
func checkRange(t *testing.T, thickness, kerf, tolerance int64) int64 {
	t.Helper()
	closing := closingAsTold([]int64{thickness}, kerf, tolerance)
	first, last, code := impl.BevelRange(thickness, kerf, tolerance)
	what := fmt.Sprint("BevelRange of ", thickness, " ", kerf, " ", tolerance)
	if len(closing) == 0 {
		checkNumber(t, what, first, code, 0, impl.ErrNotFound)
		checkNumber(t, what, last, code, 0, impl.ErrNotFound)
		return 0
	}
	checkNumber(t, what, first, code, closing[0], impl.OK)
	checkNumber(t, what, last, code, closing[len(closing)-1], impl.OK)
	for degrees := range int64(31) {
		if impl.ClosesGap(thickness, kerf, degrees, tolerance) != (first <= degrees && degrees <= last) {
			t.Fatalf("%s is %d to %d, but ClosesGap for %d is not right", what, first, last, degrees)
		}
	}
	return int64(len(closing))
}

func TestBevelRange(t *testing.T) {
	for _, c := range []struct{ thickness, kerf, tolerance, first, last, code int64 }{
		{90, 16, 2, 9, 11, impl.OK}, {90, 16, 0, 10, 10, impl.OK}, {90, 16, 1, 10, 11, impl.OK}, {90, 16, 3, 8, 12, impl.OK}, {10, 200, 5, 0, 0, impl.ErrNotFound},
		// The angle 0, alone and with others, MaxBevel, alone and with others, and all angles.
		{100, 0, 0, 0, 0, impl.OK}, {100, 0, 1, 0, 0, impl.OK}, {100, 0, 2, 0, 1, impl.OK}, {10, 0, 0, 0, 2, impl.OK}, {1, 0, 0, 0, 26, impl.OK}, {1, 1, 0, 27, 30, impl.OK}, {10, 6, 0, 29, 30, impl.OK}, {100, 58, 0, 30, 30, impl.OK}, {100, 59, 1, 30, 30, impl.OK}, {100, 60, 1, 0, 0, impl.ErrNotFound}, {1, 200, 200, 0, 30, impl.OK}, {1, 1, 1, 0, 30, impl.OK}, {1, 200, 199, 27, 30, impl.OK}, {1, 200, 198, 0, 0, impl.ErrNotFound}, {1000, 200, 200, 0, 21, impl.OK},
		// No angle between two neighbours is closed.
		{100, 4, 0, 0, 0, impl.ErrNotFound}, {100, 4, 1, 2, 3, impl.OK}, {100, 1, 0, 0, 0, impl.ErrNotFound}, {100, 1, 1, 0, 1, impl.OK}, {1000, 200, 5, 0, 0, impl.ErrNotFound}, {1000, 200, 6, 11, 11, impl.OK}, {1000, 200, 12, 11, 11, impl.OK}, {1000, 200, 13, 11, 12, impl.OK},
	} {
		first, last, code := impl.BevelRange(c.thickness, c.kerf, c.tolerance)
		if first != c.first || last != c.last || code != c.code {
			t.Errorf("BevelRange of %d %d %d is %d, %d, %d, want %d, %d, %d", c.thickness, c.kerf, c.tolerance, first, last, code, c.first, c.last, c.code)
		}
		checkRange(t, c.thickness, c.kerf, c.tolerance)
	}
	lengths := map[int64]int{}
	for thickness := int64(1); thickness <= impl.MaxThickness; thickness += 1 + thickness/9 {
		for kerf := range int64(impl.MaxKerf + 1) {
			for tolerance := int64(0); tolerance <= impl.MaxKerf; tolerance += 1 + tolerance*(1+kerf%5)/3 {
				lengths[checkRange(t, thickness, kerf, tolerance)]++
			}
		}
	}
	if len(lengths) != 32 {
		t.Errorf("ranges with the lengths %v", lengths)
	}
}

// TestBestBevelsAreInTheRange connects both halves: the best angle closes the gap whenever one does.
func TestBestBevelsAreInTheRange(t *testing.T) {
	for thickness := int64(1); thickness <= impl.MaxThickness; thickness += 13 {
		for kerf := range int64(impl.MaxKerf + 1) {
			best, _ := impl.BestBevel(thickness, kerf)
			gap, _ := impl.BevelGap(thickness, kerf, best)
			for _, tolerance := range []int64{0, 1, 2, 5, 50, 200} {
				first, last, code := impl.BevelRange(thickness, kerf, tolerance)
				if isClosed := magnitudeOf(gap) <= tolerance; isClosed != (code == impl.OK) || isClosed && (best < first || best > last) {
					t.Fatalf("%d %d: the best angle %d has the gap %d, and the range for %d is %d to %d, %d", thickness, kerf, best, gap, tolerance, first, last, code)
				}
			}
		}
	}
}
