package tests

import (
	"fmt"
	"math"
	"slices"
	"testing"

	"loop.example/g00956/impl"
)

// cutArguments are those of all functions of chapter 13.
type cutArguments struct {
	thickness, kerf, degrees, tolerance int64
	sheets                              []int64
	p                                   []impl.Point
	d                                   impl.Drawing
}

// cutResults calls every function of chapter 13.
func cutResults(a cutArguments) string {
	tangent, tangentCode := impl.TanOf(a.degrees)
	gap, gapCode := impl.BevelGap(a.thickness, a.kerf, a.degrees)
	best, bestCode := impl.BestBevel(a.thickness, a.kerf)
	first, last, rangeCode := impl.BevelRange(a.thickness, a.kerf, a.tolerance)
	common, commonCode := impl.CommonBevel(a.sheets, a.kerf, a.tolerance)
	thickness, thicknessCode := impl.ThicknessFor(a.kerf, a.degrees)
	loss, lossCode := impl.KerfLoss(a.p, a.kerf)
	path, pathCode := impl.PathLength(a.d)
	text := fmt.Sprint(tangent, tangentCode, gap, gapCode, best, bestCode, impl.ClosesGap(a.thickness, a.kerf, a.degrees, a.tolerance), first, last, rangeCode)
	return text + fmt.Sprint(common, commonCode, thickness, thicknessCode, loss, lossCode, path, pathCode)
}

// checkSameCutsAgain calls with arguments that have marks behind their slices, and with copies that have none.
func checkSameCutsAgain(t *testing.T, a cutArguments) {
	t.Helper()
	spare, copies := a, a
	d, wholeDrawing := drawingWithSpare(a.d)
	spare.d, spare.p, spare.sheets = d, withSpare(a.p, pt(-7, 77))[:len(a.p)], numbersWithSpare(a.sheets)
	copies.d, copies.p, copies.sheets = copyOf(a.d), slices.Clip(slices.Clone(a.p)), slices.Clip(slices.Clone(a.sheets))
	whole := func() string {
		return wholeDrawing() + fmt.Sprint(spare.p[:cap(spare.p)], spare.sheets[:cap(spare.sheets)])
	}
	before := whole()
	first := cutResults(spare)
	second := cutResults(copies)
	third := cutResults(spare)
	if first != second || first != third {
		t.Fatalf("%.500v: %.500s and then %.500s and %.500s", fmt.Sprint(a), first, second, third)
	}
	if before != whole() {
		t.Fatalf("%.500v: an argument or what lies behind a slice is changed", fmt.Sprint(a))
	}
}

// cutCall has arguments of all kinds, others for each seed.
func cutCall(seed int) cutArguments {
	next := dice(seed + 13)
	a := cutArguments{thickness: next(1002), kerf: next(202), degrees: next(32), tolerance: next(202), p: poly(goodTexts[seed%len(goodTexts)]), d: draw(coverTexts[seed%len(coverTexts)])}
	for range next(67) {
		a.sheets = append(a.sheets, 80+next(40))
	}
	return a
}

func TestCutsAreTheSameAgain(t *testing.T) {
	for seed := range 2000 {
		checkSameCutsAgain(t, cutCall(seed))
	}
	for n, d := range goodDrawings() {
		a := cutCall(n)
		a.d, a.p = d, goodPolygons()[n%40]
		checkSameCutsAgain(t, a)
	}
	forBadDrawings(func(_ string, d impl.Drawing) {
		if len(d.Points)+len(d.Faces) < 1000 {
			a := cutCall(1)
			a.d = d
			checkSameCutsAgain(t, a)
		}
	})
	forBadPolygons(func(_ string, p []impl.Point) {
		a := cutCall(2)
		a.p = p
		checkSameCutsAgain(t, a)
	})
}

// TestFarNumbersInCuts puts far numbers into each two numbers of the arguments, and into all places of lists.
func TestFarNumbersInCuts(t *testing.T) {
	far := append([]int64{30, 31, 200, 201, 1000, 1001}, farCoordinates...)
	for _, n := range far {
		for _, m := range far {
			a := cutArguments{thickness: 90, kerf: 16, degrees: 10, tolerance: 2, sheets: []int64{90, 100}, p: poly("0,0 9,0 0,9"), d: draw(coverTexts[0])}
			places := append(numbersOf(&a.d), &a.thickness, &a.kerf, &a.degrees, &a.tolerance, &a.sheets[0], &a.sheets[1], &a.p[0].X, &a.p[1].Y)
			for k, place := range places {
				next := places[(k+int(magnitudeOf(m%7))+1)%len(places)]
				kept, keptNext := *place, *next
				*place, *next = n, m
				checkSameCutsAgain(t, a)
				*next = keptNext
				*place = kept
			}
		}
	}
	size := len(farCoordinates)
	for n := range 70 {
		for seed := range size {
			a := cutArguments{kerf: 16, tolerance: 200, p: make([]impl.Point, n)}
			for k := range n {
				a.sheets = append(a.sheets, farCoordinates[(seed+k*k)%size])
				a.p[k] = pt(a.sheets[k], farCoordinates[(seed+3*k)%size])
			}
			checkSameCutsAgain(t, a)
		}
	}
	// Each number alone may be as far as there is.
	for _, n := range []int64{math.MinInt64, math.MaxInt64} {
		checkSameCutsAgain(t, cutArguments{thickness: n, kerf: n, degrees: n, tolerance: n, sheets: []int64{n}, p: []impl.Point{pt(n, n)}, d: impl.Drawing{Width: n, Height: n}})
	}
}

func TestNilAndEmptyCutsAreEquivalent(t *testing.T) {
	for _, tolerance := range []int64{-1, 0, 2} {
		base := cutArguments{thickness: 90, kerf: 16, tolerance: tolerance, d: draw("10x10;")}
		empty := base
		empty.sheets, empty.p, empty.d.Points, empty.d.Faces = []int64{}, []impl.Point{}, []impl.Point{}, []impl.Face{}
		if first, second := cutResults(base), cutResults(empty); first != second {
			t.Errorf("%s and then %s", first, second)
		}
	}
}

// TestCutsAtOnce makes the same calls from several goroutines.
func TestCutsAtOnce(t *testing.T) {
	const rounds = 6
	results := make(chan string)
	for range rounds {
		go func() {
			text := ""
			for seed := range 100 {
				text += cutResults(cutCall(seed))
			}
			results <- text
		}()
	}
	first := <-results
	for range rounds - 1 {
		if again := <-results; again != first {
			t.Errorf("%s and at the same time %s", first, again)
		}
	}
}
