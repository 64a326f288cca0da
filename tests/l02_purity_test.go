package tests

import (
	"fmt"
	"math"
	"testing"

	"loop.example/g00956/impl"
)

// farCoordinates are the numbers at which the limits of chapter 2 and arithmetic with int64 go wrong first.
var farCoordinates = []int64{math.MinInt64, math.MinInt64 + 1, -1 << 32, -most - 1, -most, -1, 0, 1, 7, most, most + 1, 1 << 32, math.MaxInt64 - 1, math.MaxInt64}

// pointResults calls every function of chapter 2 that takes points or turns.
func pointResults(a, b, c, d impl.Point, turn, other int64) string {
	crossing, code := impl.CrossPoint(a, b, c, d)
	back, backCode := impl.InverseTurn(turn)
	both, bothCode := impl.ComposeTurns(turn, other)
	return fmt.Sprint(impl.ValidPoint(a), impl.SideOf(a, b, c), impl.OnSegment(a, b, c), impl.Crosses(a, b, c, d), impl.Touches(a, b, c, d),
		impl.Distance(a, b), impl.DistanceToSegment(a, b, c), impl.SegmentDistance(a, b, c, d), crossing, code,
		impl.Turned(a, turn), back, backCode, both, bothCode, impl.PointText(a))
}

func checkSameAgain(t *testing.T, a, b, c, d impl.Point, turn, other int64) {
	t.Helper()
	if first, second := pointResults(a, b, c, d, turn, other), pointResults(a, b, c, d, turn, other); first != second {
		t.Fatalf("%v %v %v %v %d %d: %s and then %s", a, b, c, d, turn, other, first, second)
	}
}

// forFarPairs puts each two of the far numbers into each two of eight coordinates, and passes them, too.
func forFarPairs(coordinates [8]int64, check func(n [8]int64, x, y int64)) {
	for first := range 8 {
		for second := range 8 {
			for _, x := range farCoordinates {
				for _, y := range farCoordinates {
					n := coordinates
					n[first], n[second] = x, y
					check(n, x, y)
				}
			}
		}
	}
}

// TestEveryPointReturnsTheSameAgain puts all numbers into both turns, too.
func TestEveryPointReturnsTheSameAgain(t *testing.T) {
	forFarPairs([8]int64{0, 0, 9, 9, 0, 9, 9, 0}, func(n [8]int64, x, y int64) {
		checkSameAgain(t, pt(n[0], n[1]), pt(n[2], n[3]), pt(n[4], n[5]), pt(n[6], n[7]), x, y)
	})
}

func TestEveryCoordinateMayBeFar(t *testing.T) {
	size := len(farCoordinates)
	for seed := range size * size * size {
		var n [8]int64
		for k := range n {
			n[k] = farCoordinates[(seed+seed/size*(k+1)+seed/(size*size)*(k*k+3))%size]
		}
		checkSameAgain(t, pt(n[0], n[1]), pt(n[2], n[3]), pt(n[4], n[5]), pt(n[6], n[7]), n[0], n[7])
	}
}

func TestEveryPointTextReturnsTheSameAgain(t *testing.T) {
	for _, s := range append(append(oddTexts(), notDecimal...), "3,4", "20000,0", "0,20001") {
		for _, text := range []string{s, s + ",1", "1," + s} {
			first, firstOK := impl.ReadPoint(text)
			second, secondOK := impl.ReadPoint(text)
			if first != second || firstOK != secondOK {
				t.Fatalf("%q: %v, %v and then %v, %v", text, first, firstOK, second, secondOK)
			}
		}
	}
}
