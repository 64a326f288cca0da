package tests

import (
	"fmt"
	"math"
	"slices"
	"testing"

	"loop.example/g00956/impl"
)

// polygonResults calls every function of chapter 3 that takes points.
func polygonResults(p, other []impl.Point, q impl.Point, n, m int64) string {
	area, areaCode := impl.AreaTwice(p)
	border, borderCode := impl.PerimeterOf(p)
	place, placeCode := impl.Inside(p, q)
	low, high, boundsCode := impl.BoundsOf(p)
	centre, centreCode := impl.CentreOf(p)
	started, startCode := impl.StartAt(p, n)
	shifted, shiftCode := impl.ShiftPolygon(p, n, m)
	turned, turnCode := impl.TurnPolygon(p, n)
	turns, turnsCode := impl.TurnsOf(p)
	return fmt.Sprint(impl.ValidPolygon(p), impl.SamePolygon(p, other), impl.SamePolygon(other, p), area, areaCode, border, borderCode, place, placeCode,
		low, high, boundsCode, impl.IsConvex(p), centre, centreCode, started, startCode, shifted, shiftCode, turned, turnCode, turns, turnsCode, impl.PolygonText(p))
}

// checkSamePolygonAgain calls with points that have marks behind them, and with a copy that has none.
func checkSamePolygonAgain(t *testing.T, p, other []impl.Point, q impl.Point, n, m int64) {
	t.Helper()
	mark := pt(math.MaxInt64-7, 77)
	whole, otherWhole := withSpare(p, mark), withSpare(other, mark)
	first := polygonResults(whole[:len(p)], otherWhole[:len(other)], q, n, m)
	second := polygonResults(slices.Clip(slices.Clone(p)), slices.Clip(slices.Clone(other)), q, n, m)
	if first != second {
		t.Fatalf("%v %v %v %d %d: %s and then %s", p, other, q, n, m, first, second)
	}
	if !slices.Equal(whole, withSpare(p, mark)) || !slices.Equal(otherWhole, withSpare(other, mark)) {
		t.Fatalf("%v %v %v %d %d: the points or what lies behind them are changed", p, other, q, n, m)
	}
}

// withSpare returns a copy of points with marks behind them.
func withSpare(p []impl.Point, mark impl.Point) []impl.Point {
	whole := make([]impl.Point, len(p), len(p)+40)
	copy(whole, p)
	for range 40 {
		whole = append(whole, mark)
	}
	return whole
}

func TestEveryPolygonReturnsTheSameAgain(t *testing.T) {
	for _, p := range goodPolygons() {
		reversed := mirrored(p)
		for _, n := range append(farCoordinates, 2, 3, 4, 5, 6, 8, 23, 24) {
			checkSamePolygonAgain(t, p, slices.Concat(p[1:], p[:1]), pt(6, n), n, 1)
			checkSamePolygonAgain(t, p, reversed, pt(n, 6), n, n)
			checkSamePolygonAgain(t, reversed, p, pt(3, 3), 1, n)
		}
	}
	forBadPolygons(func(_ string, p []impl.Point) {
		checkSamePolygonAgain(t, p, p, pt(3, 3), 1, 1)
		checkSamePolygonAgain(t, p, nil, pt(-3, 3), math.MinInt64, math.MaxInt64)
	})
}

// forFarLists puts all of the far numbers into lists of all lengths, and passes two of them, too.
func forFarLists(check func(p []impl.Point, x, y int64)) {
	size := len(farCoordinates)
	for n := range 27 {
		for seed := range size * size {
			p := make([]impl.Point, n)
			for k := range p {
				p[k] = pt(farCoordinates[(seed+k*k+3*k)%size], farCoordinates[(seed/size+k*(seed+1))%size])
			}
			check(p, farCoordinates[seed%size], farCoordinates[seed/size])
		}
	}
}

func TestEveryPolygonMayBeFar(t *testing.T) {
	forFarLists(func(p []impl.Point, x, y int64) {
		checkSamePolygonAgain(t, p, mirrored(p), pt(x, 5), y, x)
	})
}

// TestFarCoordinatesInAGoodPolygon changes one coordinate after the other: nothing but a valid polygon has results.
func TestFarCoordinatesInAGoodPolygon(t *testing.T) {
	for _, good := range goodPolygons() {
		for k := range good {
			for _, n := range farCoordinates {
				for _, changed := range []impl.Point{pt(n, good[k].Y), pt(good[k].X, n), pt(n, n)} {
					p := slices.Clone(good)
					p[k] = changed
					valid := impl.ValidPolygon(p)
					if valid && !impl.ValidPoint(changed) {
						t.Errorf("%v is valid", p)
					}
					if _, code := impl.AreaTwice(p); (code == impl.OK) != valid {
						t.Errorf("AreaTwice(%v) returns the code %d", p, code)
					}
				}
			}
		}
	}
}

func TestNilAndEmptyPolygonsAreEquivalent(t *testing.T) {
	for _, n := range []int64{-1, 0, 1, 8} {
		first, second := polygonResults(nil, nil, pt(1, 1), n, n), polygonResults([]impl.Point{}, []impl.Point{}, pt(1, 1), n, n)
		if first != second {
			t.Errorf("nil: %s, an empty list: %s", first, second)
		}
	}
}

// pointChanges are the functions that return points of their own.
var pointChanges = map[string]func(p []impl.Point) []impl.Point{
	"StartAt 0":      func(p []impl.Point) []impl.Point { q, _ := impl.StartAt(p, 0); return q },
	"StartAt 1":      func(p []impl.Point) []impl.Point { q, _ := impl.StartAt(p, 1); return q },
	"ShiftPolygon 0": func(p []impl.Point) []impl.Point { q, _ := impl.ShiftPolygon(p, 0, 0); return q },
	"ShiftPolygon 1": func(p []impl.Point) []impl.Point { q, _ := impl.ShiftPolygon(p, 1, 1); return q },
	"TurnPolygon 0":  func(p []impl.Point) []impl.Point { q, _ := impl.TurnPolygon(p, 0); return q },
	"TurnPolygon 5":  func(p []impl.Point) []impl.Point { q, _ := impl.TurnPolygon(p, 5); return q },
	"ReadPolygon":    func(p []impl.Point) []impl.Point { q, _ := impl.ReadPolygon(impl.PolygonText(p)); return q },
}

// TestResultsAreNewMemory writes over all that a result has, and over the argument.
func TestResultsAreNewMemory(t *testing.T) {
	for name, change := range pointChanges {
		for _, good := range [][]impl.Point{poly("0,0 9,0 0,9"), poly("0,0 90,0 90,30 30,30 30,60 0,60"), strip(impl.MaxCorners)} {
			whole := withSpare(good, pt(7, 7))
			p := whole[:len(good)]
			kept, other := change(p), change(p)
			want := slices.Clone(kept)
			fill(other[:cap(other)])
			if !slices.Equal(whole, withSpare(good, pt(7, 7))) {
				t.Errorf("%s: the result shares memory with %v", name, good)
			}
			fill(whole)
			if !slices.Equal(kept, want) || !slices.Equal(change(good), want) {
				t.Errorf("%s: the result for %v changes with another one or with the argument", name, good)
			}
		}
	}
}

func fill(p []impl.Point) {
	for k := range p {
		p[k] = pt(-99, 99)
	}
}

func TestTurnsOfReturnsNewMemory(t *testing.T) {
	square := poly("5,5 9,5 9,9 5,9")
	first, _ := impl.TurnsOf(square)
	for k := range first[:cap(first)] {
		first[:cap(first)][k] = 99
	}
	if second, _ := impl.TurnsOf(square); !slices.Equal(second, []int64{0, 1, 2, 3, 4, 5, 6, 7}) {
		t.Errorf("TurnsOf(%v) is %v after another result was changed", square, second)
	}
}

func TestEveryPolygonTextReturnsTheSameAgain(t *testing.T) {
	texts := append(slices.Concat(oddTexts(), notDecimal, goodTexts), "0,0 9,0", "0,0 9,0 0,9 0,0")
	for _, s := range texts {
		first, firstOK := impl.ReadPolygon(s)
		second, secondOK := impl.ReadPolygon(s)
		if !slices.Equal(first, second) || firstOK != secondOK {
			t.Fatalf("%q: %v, %v and then %v, %v", s, first, firstOK, second, secondOK)
		}
	}
}
