package tests

import (
	"fmt"
	"slices"
	"testing"

	"loop.example/g00956/impl"
)

func checkCommon(t *testing.T, sheets []int64, kerf, tolerance, want, wantCode int64) {
	t.Helper()
	got, code := impl.CommonBevel(sheets, kerf, tolerance)
	checkNumber(t, fmt.Sprintf("CommonBevel of %.300v %d %d", fmt.Sprint(sheets), kerf, tolerance), got, code, want, wantCode)
}

func checkCommonAsTold(t *testing.T, sheets []int64, kerf, tolerance int64) int64 {
	t.Helper()
	if closing := closingAsTold(sheets, kerf, tolerance); len(closing) > 0 {
		checkCommon(t, sheets, kerf, tolerance, closing[0], impl.OK)
		return impl.OK
	}
	checkCommon(t, sheets, kerf, tolerance, 0, impl.ErrNotFound)
	return impl.ErrNotFound
}

func TestCommonBevel(t *testing.T) {
	for _, c := range []struct {
		sheets                          []int64
		kerf, tolerance, want, wantCode int64
	}{
		// No sheets, and one.
		{nil, 16, 1, 0, impl.OK}, {[]int64{}, 0, 0, 0, impl.OK}, {nil, 200, 200, 0, impl.OK}, {[]int64{90}, 16, 2, 9, impl.OK}, {[]int64{90}, 16, 0, 10, impl.OK}, {[]int64{100}, 4, 0, 0, impl.ErrNotFound}, {[]int64{100}, 4, 1, 2, impl.OK}, {[]int64{1}, 200, 198, 0, impl.ErrNotFound}, {[]int64{1}, 200, 199, 27, impl.OK}, {[]int64{100}, 58, 0, 30, impl.OK}, {[]int64{90}, 0, 0, 0, impl.OK},
		// Several with a common angle, the least one of all of theirs, in any order, and without one.
		{[]int64{90, 100}, 16, 2, 9, impl.OK}, {[]int64{100, 90}, 16, 2, 9, impl.OK}, {[]int64{90, 100}, 16, 0, 0, impl.ErrNotFound}, {[]int64{90, 100}, 16, 1, 0, impl.ErrNotFound}, {[]int64{90, 300}, 16, 1, 0, impl.ErrNotFound}, {[]int64{90, 300}, 16, 200, 0, impl.OK}, {[]int64{90, 90, 90}, 16, 0, 10, impl.OK}, {[]int64{90, 91, 92}, 16, 0, 10, impl.OK}, {[]int64{1, 1000}, 100, 100, 0, impl.OK}, {[]int64{1, 1000}, 100, 99, 0, impl.ErrNotFound}, {[]int64{1, 50}, 1, 0, 0, impl.ErrNotFound},
		// Only the last sheet, or the first one, has no such angle.
		{[]int64{90, 90, 300}, 16, 1, 0, impl.ErrNotFound}, {[]int64{300, 90, 90}, 16, 1, 0, impl.ErrNotFound}, {[]int64{90, 300, 90}, 16, 1, 0, impl.ErrNotFound},
	} {
		checkCommon(t, c.sheets, c.kerf, c.tolerance, c.want, c.wantCode)
		if code := checkCommonAsTold(t, c.sheets, c.kerf, c.tolerance); code != c.wantCode {
			t.Errorf("as told, the code is %d", code)
		}
	}
	codes := map[int64]int{}
	for seed := range 20000 {
		next := dice(seed)
		base, spread := 1+next(900), 1+next([]int64{1, 5, 30, 100}[seed%4])
		var sheets []int64
		for range next(8) {
			sheets = append(sheets, base+next(spread))
		}
		codes[checkCommonAsTold(t, sheets, next(201), next([]int64{3, 10, 201}[seed%3]))]++
	}
	if codes[impl.OK] < 5000 || codes[impl.ErrNotFound] < 3000 {
		t.Errorf("codes %v", codes)
	}
}

// TestCodesOfCommonBevel has each error with and without those that are checked later.
func TestCodesOfCommonBevel(t *testing.T) {
	for _, n := range []int{63, 64, 65, 66, 1000, 100000} {
		for _, sheets := range [][]int64{slices.Repeat([]int64{90}, n), append(slices.Repeat([]int64{90}, n-1), 300)} {
			for _, kerf := range []int64{0, 16, 200} {
				if n > 64 {
					checkCommon(t, sheets, kerf, 0, 0, impl.ErrFull)
					checkCommon(t, sheets, kerf, 200, 0, impl.ErrFull)
				} else {
					checkCommonAsTold(t, sheets, kerf, 0)
					checkCommonAsTold(t, sheets, kerf, 200)
				}
			}
			for _, bad := range noKerfs {
				checkCommon(t, sheets, bad, 0, 0, impl.ErrRange)
				checkCommon(t, sheets, 16, bad, 0, impl.ErrRange)
			}
			for _, bad := range noThicknesses {
				for _, place := range []int{0, n / 2, n - 1} {
					wrong := slices.Clone(sheets)
					wrong[place] = bad
					checkCommon(t, wrong, 16, 0, 0, impl.ErrRange)
					checkCommon(t, wrong, 16, 200, 0, impl.ErrRange)
				}
			}
		}
	}
	// A common angle of exactly as many sheets as there may be, of which each one has another thickness.
	var sheets []int64
	for k := range int64(64) {
		sheets = append(sheets, 100+k)
	}
	checkCommon(t, sheets, 16, 6, 6, impl.OK)
	checkCommon(t, sheets, 16, 3, 0, impl.ErrNotFound)
	checkCommon(t, append(sheets, 100), 16, 6, 0, impl.ErrFull)
	checkCommon(t, append(sheets, 100), 16, 3, 0, impl.ErrFull)
	checkCommon(t, append(sheets, 0), 16, 6, 0, impl.ErrRange)
}

func checkThickness(t *testing.T, kerf, degrees, want, wantCode int64) {
	t.Helper()
	got, code := impl.ThicknessFor(kerf, degrees)
	checkNumber(t, fmt.Sprint("ThicknessFor ", kerf, " ", degrees), got, code, want, wantCode)
}

func checkThicknessAsTold(t *testing.T, kerf, degrees int64) {
	t.Helper()
	if want := thicknessAsTold(kerf, degrees); want > 0 {
		checkThickness(t, kerf, degrees, want, impl.OK)
	} else {
		checkThickness(t, kerf, degrees, 0, impl.ErrNotFound)
	}
}

func TestThicknessFor(t *testing.T) {
	for _, c := range [][4]int64{
		// The gap is exactly 0, and 1 below; at 0 degrees there is only the kerf.
		{16, 10, 88, impl.OK}, {16, 0, 0, impl.ErrNotFound}, {0, 0, 1, impl.OK}, {1, 0, 0, impl.ErrNotFound}, {200, 0, 0, impl.ErrNotFound}, {0, 10, 1, impl.OK}, {0, 30, 1, impl.OK}, {1, 30, 1, impl.OK}, {1, 26, 2, impl.OK}, {1, 27, 1, impl.OK}, {2, 30, 3, impl.OK}, {1, 1, 29, impl.OK}, {200, 30, 346, impl.OK},
		// Exactly the greatest thickness, and one beyond it.
		{18, 1, 1000, impl.OK}, {19, 1, 0, impl.ErrNotFound}, {17, 1, 943, impl.OK}, {88, 5, 1000, impl.OK}, {89, 5, 0, impl.ErrNotFound}, {141, 8, 1000, impl.OK}, {142, 8, 0, impl.ErrNotFound}, {194, 11, 996, impl.OK}, {195, 11, 0, impl.ErrNotFound}, {200, 11, 0, impl.ErrNotFound}, {200, 12, 939, impl.OK},
	} {
		checkThickness(t, c[0], c[1], c[2], c[3])
	}
	for kerf := range int64(impl.MaxKerf + 1) {
		for degrees := range int64(31) {
			checkThicknessAsTold(t, kerf, degrees)
			thickness, code := impl.ThicknessFor(kerf, degrees)
			if code != impl.OK {
				continue
			}
			if gap, code := impl.BevelGap(thickness, kerf, degrees); gap > 0 || code != impl.OK {
				t.Fatalf("ThicknessFor %d %d is %d with the gap %d, %d", kerf, degrees, thickness, gap, code)
			}
			if gap, code := impl.BevelGap(thickness-1, kerf, degrees); thickness > 1 && (gap <= 0 || code != impl.OK) {
				t.Fatalf("ThicknessFor %d %d is %d, but one less has the gap %d, %d", kerf, degrees, thickness, gap, code)
			}
		}
	}
}
