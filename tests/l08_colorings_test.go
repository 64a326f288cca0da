package tests

import (
	"fmt"
	"math"
	"slices"
	"testing"

	"loop.example/g00956/impl"
)

func checkIsColoring(t *testing.T, d impl.Drawing, palette []impl.Veneer, limit int64, choice []int64, want bool) {
	t.Helper()
	if got := impl.IsColoring(d, palette, limit, choice); got != want {
		t.Errorf("IsColoring(%.300v, %.300v, %d, %.300v) is %v", fmt.Sprint(d), fmt.Sprint(palette), limit, fmt.Sprint(choice), got)
	}
}

func TestIsColoring(t *testing.T) {
	for _, c := range []struct {
		text   string
		shades []int64
		limit  int64
		choice []int64
		want   bool
	}{
		// The contrast is equal to the limit, one less, and none.
		{twoFaces, []int64{40, 20}, 20, []int64{0, 1}, true}, {twoFaces, []int64{40, 20}, 20, []int64{1, 0}, true}, {twoFaces, []int64{40, 20}, 19, []int64{0, 1}, true}, {twoFaces, []int64{40, 20}, 21, []int64{0, 1}, false}, {twoFaces, []int64{40, 20}, 0, []int64{0, 0}, true}, {twoFaces, []int64{40, 20}, 1, []int64{0, 0}, false}, {twoFaces, []int64{40, 20}, 1, []int64{1, 1}, false},
		{twoFaces, []int64{40}, 0, []int64{0, 0}, true}, {twoFaces, []int64{40, 40}, 1, []int64{0, 1}, false}, {twoFaces, []int64{40, 40}, 0, []int64{1, 0}, true}, {twoFaces, []int64{0, 100}, 100, []int64{0, 1}, true}, {twoFaces, []int64{0, 100}, 115, []int64{0, 1}, false},
		// No neighbours: any choice.
		{twoApart, []int64{40, 20}, 115, []int64{0, 0}, true}, {oneFace, []int64{40, 20}, 115, []int64{1}, true}, {noFaces, []int64{40}, 115, nil, true}, {noFaces, []int64{40}, 0, []int64{}, true},
		// The weak pair is the first one, the last one, or one of the others.
		{chain, []int64{0, 20, 50}, 20, []int64{0, 1, 0, 2}, true}, {chain, []int64{0, 20, 50}, 20, []int64{0, 0, 1, 2}, false}, {chain, []int64{0, 20, 50}, 20, []int64{0, 1, 1, 2}, false}, {chain, []int64{0, 20, 50}, 20, []int64{0, 1, 2, 2}, false}, {chain, []int64{0, 20, 50}, 30, []int64{0, 2, 1, 2}, true}, {chain, []int64{0, 20, 50}, 31, []int64{0, 2, 1, 2}, false},
		{groups, []int64{40, 20}, 20, []int64{0, 0, 1, 1}, true}, {groups, []int64{40, 20}, 20, []int64{0, 1, 0, 1}, false}, {mixed, []int64{40, 20}, 20, []int64{0, 1, 1, 0}, true}, {mixed, []int64{40, 20}, 20, []int64{0, 1, 0, 1}, false},
		// Too few indices, too many, and no indices of the palette.
		{twoFaces, []int64{40, 20}, 0, []int64{0}, false}, {twoFaces, []int64{40, 20}, 0, []int64{0, 1, 0}, false}, {twoFaces, []int64{40, 20}, 0, nil, false}, {noFaces, []int64{40}, 0, []int64{0}, false}, {twoFaces, []int64{40, 20}, 0, []int64{0, 2}, false}, {twoFaces, []int64{40, 20}, 0, []int64{2, 0}, false}, {twoFaces, []int64{40, 20}, 0, []int64{-1, 0}, false}, {twoFaces, []int64{40, 20}, 0, []int64{0, -1}, false},
		// No palette.
		{twoFaces, nil, 0, []int64{0, 0}, false}, {noFaces, nil, 0, nil, false}, {noFaces, []int64{}, 115, []int64{}, false},
	} {
		checkIsColoring(t, draw(c.text), grainless(c.shades...), c.limit, c.choice, c.want)
	}
}

// TestAllChoicesOfSmallDrawings has all choices for up to four faces and four veneers.
func TestAllChoicesOfSmallDrawings(t *testing.T) {
	colorings := map[bool]int{}
	for seed, d := range smallDrawings() {
		if len(d.Faces) > 4 {
			d.Faces = d.Faces[:4]
		}
		pairs := pairsAsTold(d)
		for _, palette := range palettes(seed + 2)[:4] {
			contrasts := contrastsOf(palette)
			forChoices(len(d.Faces), len(palette), func(choice []int64) bool {
				least := leastAsTold(pairs, contrasts, choice)
				for _, limit := range []int64{0, 20, 115, least, min(115, least+1)} {
					want := least >= limit
					colorings[want]++
					checkIsColoring(t, d, palette, limit, choice, want)
				}
				return true
			})
		}
	}
	if colorings[true] < 2000 || colorings[false] < 2000 {
		t.Errorf("choices that are colorings, and others: %v", colorings)
	}
}

func TestIsColoringRefuses(t *testing.T) {
	good := slices.Repeat(grainless(40, 20), 5)
	for _, text := range []string{twoFaces, noFaces, twoApart} {
		d := draw(text)
		choice := make([]int64, len(d.Faces))
		for n := range 12 {
			checkIsColoring(t, d, slices.Repeat(good, 2)[:n], 0, choice, 1 <= n && n <= 10)
		}
		checkIsColoring(t, d, slices.Repeat(good, 1000), 0, choice, false)
		for _, limit := range noContrasts {
			checkIsColoring(t, d, good, limit, choice, false)
		}
		for k := range choice {
			for _, n := range noIndices(len(good)) {
				wrong := slices.Clone(choice)
				wrong[k] = n
				checkIsColoring(t, d, good, 0, wrong, false)
			}
		}
		checkIsColoring(t, d, good, 0, append(choice, 0), false)
		checkIsColoring(t, d, good, 0, make([]int64, 10000), false)
		// Also a veneer that no face has.
		for n, bad := range badVeneers() {
			palette := slices.Clone(good[:1+n%10])
			palette[n%len(palette)] = bad
			checkIsColoring(t, d, palette, 0, choice, false)
			checkIsColoring(t, d, append(good[:n%10:n%10], bad), 0, choice, false)
		}
	}
	forBadDrawings(func(_ string, d impl.Drawing) {
		checkIsColoring(t, d, good, 0, make([]int64, len(d.Faces)), false)
	})
}

// checkCodes calls all functions that search, which have no results with a code; with OK as the code of BestColoring, all but this one.
func checkCodes(t *testing.T, d impl.Drawing, palette []impl.Veneer, limit, budget, want, wantBest int64) {
	t.Helper()
	first, firstCode := impl.FirstColoring(d, palette, limit, budget)
	fewest, number, fewestCode := impl.FewestVeneers(d, palette, limit, budget)
	if len(first)+len(fewest) > 0 || number != 0 || firstCode != want || fewestCode != want {
		t.Errorf("%.300v, %.300v, %d, %d: FirstColoring is %v, %d, and FewestVeneers %v, %d, %d, want %d", fmt.Sprint(d), fmt.Sprint(palette), limit, budget, first, firstCode, fewest, number, fewestCode, want)
	}
	if best, contrast, code := impl.BestColoring(d, palette, budget); wantBest != impl.OK && (len(best) > 0 || contrast != 0 || code != wantBest) {
		t.Errorf("BestColoring(%.300v, %.300v, %d) is %v, %d, %d, want %d", fmt.Sprint(d), fmt.Sprint(palette), budget, best, contrast, code, wantBest)
	}
}

// noBudgets are numbers that are no budget.
var noBudgets = []int64{0, -1, -20000, 20001, 20002, 1 << 32, -1 << 32, 1<<32 + 1, math.MinInt64, math.MinInt64 + 1, math.MaxInt64 - 1, math.MaxInt64}

func TestSearchesRefuseNumbers(t *testing.T) {
	palette := slices.Repeat(grainless(40, 20), 5)
	for _, d := range append(smallDrawings(), fullMesh()) {
		for _, budget := range noBudgets {
			checkCodes(t, d, palette, 0, budget, impl.ErrRange, impl.ErrRange)
			checkCodes(t, d, palette[:1], 115, budget, impl.ErrRange, impl.ErrRange)
		}
		for _, limit := range noContrasts {
			checkCodes(t, d, palette, limit, 1, impl.ErrRange, impl.OK)
			checkCodes(t, d, palette, limit, impl.MaxBudget, impl.ErrRange, impl.OK)
		}
		for _, n := range []int{0, 11, 12, 20, 1000} {
			checkCodes(t, d, slices.Repeat(palette, 100)[:n], 0, impl.MaxBudget, impl.ErrRange, impl.ErrRange)
			checkCodes(t, d, slices.Repeat(palette, 100)[:n], -1, 0, impl.ErrRange, impl.ErrRange)
		}
		checkCodes(t, d, nil, 0, impl.MaxBudget, impl.ErrRange, impl.ErrRange)
		checkCodes(t, d, []impl.Veneer{}, 115, 1, impl.ErrRange, impl.ErrRange)
	}
}

// TestSearchesRefuseDrawingsAndVeneers has numbers that are good, and others: ErrInvalid is first.
func TestSearchesRefuseDrawingsAndVeneers(t *testing.T) {
	good := slices.Repeat(grainless(40, 20), 6)
	numbers := [][2]int64{{0, 1}, {115, impl.MaxBudget}, {20, 100}, {-1, 1}, {116, 1}, {0, 0}, {0, impl.MaxBudget + 1}, {math.MinInt64, math.MinInt64}, {math.MaxInt64, math.MaxInt64}}
	n := 0
	forBadDrawings(func(_ string, d impl.Drawing) {
		n++
		for _, length := range []int{0, 1, 10, 11} {
			for _, pair := range [][2]int64{numbers[n%len(numbers)], numbers[0]} {
				checkCodes(t, d, good[:length], pair[0], pair[1], impl.ErrInvalid, impl.ErrInvalid)
			}
		}
	})
	for k, bad := range badVeneers() {
		for _, text := range []string{twoFaces, noFaces} {
			pair := numbers[k%len(numbers)]
			for _, length := range []int{1, 2, 10, 11, 12} {
				palette := slices.Clone(good[:length])
				palette[k%length] = bad
				checkCodes(t, draw(text), palette, pair[0], pair[1], impl.ErrInvalid, impl.ErrInvalid)
			}
		}
	}
	checkCodes(t, draw(twoFaces), make([]impl.Veneer, 1000), 0, 1, impl.ErrInvalid, impl.ErrInvalid)
	checkCodes(t, draw(twoFaces), append(slices.Repeat(good, 1000), impl.Veneer{}), 0, 1, impl.ErrInvalid, impl.ErrInvalid)
	checkCodes(t, impl.Drawing{}, nil, 0, 1, impl.ErrInvalid, impl.ErrInvalid)
}

// TestExampleOfChapter8 has two neighbours of the same veneer.
func TestExampleOfChapter8(t *testing.T) {
	for _, v := range goodVeneers() {
		p := impl.Picture{Drawing: draw(twoFaces), Veneers: []impl.Veneer{v, v}}
		list, code := impl.EdgeContrasts(p)
		checkList(t, fmt.Sprint("EdgeContrasts ", p), list, code, [][]int64{{0, 1, 0}})
		choice, contrast, code := impl.BestColoring(p.Drawing, []impl.Veneer{v}, impl.MaxBudget)
		checkList(t, fmt.Sprint("BestColoring ", p), choice, code, []int64{0, 0})
		if contrast != 0 {
			t.Errorf("the contrast of %v is %d", p, contrast)
		}
	}
}

// TestAllVeneersAreTried has a palette of the greatest length, of which the last ones are needed.
func TestAllVeneersAreTried(t *testing.T) {
	shades := []int64{0, 10, 20, 30, 40, 50, 60, 70, 80, 100}
	palette := grainless(shades...)
	for a, low := range shades {
		for b, high := range shades {
			if a >= b {
				continue
			}
			limit := high - low
			want := slices.IndexFunc(shades, func(shade int64) bool { return shade >= limit || 100-shade >= limit })
			choice, code := impl.FirstColoring(draw(twoFaces), palette, limit, impl.MaxBudget)
			if code != impl.OK || len(choice) != 2 || choice[0] != int64(want) || magnitudeOf(shades[choice[0]]-shades[choice[1]]) < limit {
				t.Errorf("FirstColoring for the limit %d is %v, %d", limit, choice, code)
			}
		}
	}
	all, number, code := impl.FewestVeneers(crowd(10), palette, 10, impl.MaxBudget)
	if code != impl.ErrFull || number != 0 || len(all) != 0 {
		t.Errorf("FewestVeneers of a crowd is %v, %d, %d", all, number, code)
	}
	first, code := impl.FirstColoring(crowd(10), palette, 10, 10)
	checkList(t, "FirstColoring of a crowd", first, code, []int64{0, 1, 2, 3, 4, 5, 6, 7, 8, 9})
}
