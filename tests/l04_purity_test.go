package tests

import (
	"fmt"
	"math"
	"slices"
	"testing"

	"loop.example/g00956/impl"
)

// triangleResults calls every function of chapter 4 that takes lists of points.
func triangleResults(p, other []impl.Point, i, k int64) string {
	pairs, pairsCode := impl.DiagonalsOf(p)
	ears, earsCode := impl.EarsOf(p)
	triangles, trianglesCode := impl.Triangulate(p)
	gap, gapCode := impl.PolygonDistance(p, other)
	joined, joinCode := impl.JoinPolygons(p, other)
	hull, hullCode := impl.HullOf(p)
	return fmt.Sprint(impl.IsDiagonal(p, i, k), pairs, pairsCode, ears, earsCode, triangles, trianglesCode, impl.Disjoint(p, other), impl.Disjoint(other, p), gap, gapCode, joined, joinCode, hull, hullCode)
}

// checkSameTrianglesAgain calls with points that have marks behind them, and with a copy that has none.
func checkSameTrianglesAgain(t *testing.T, p, other []impl.Point, i, k int64) {
	t.Helper()
	mark := pt(math.MaxInt64-7, 77)
	whole, otherWhole := withSpare(p, mark), withSpare(other, mark)
	first := triangleResults(whole[:len(p)], otherWhole[:len(other)], i, k)
	second := triangleResults(slices.Clip(slices.Clone(p)), slices.Clip(slices.Clone(other)), i, k)
	if first != second {
		t.Fatalf("%v %v %d %d: %s and then %s", p, other, i, k, first, second)
	}
	if !slices.Equal(whole, withSpare(p, mark)) || !slices.Equal(otherWhole, withSpare(other, mark)) {
		t.Fatalf("%v %v %d %d: the points or what lies behind them are changed", p, other, i, k)
	}
}

func TestTrianglesAreTheSameAgain(t *testing.T) {
	for n, p := range goodPolygons() {
		for _, other := range [][]impl.Point{p, mirrored(p), startAt(p, n), moved(p, 1, 0), moved(p, -1, 3), saw(24), strip(9)} {
			checkSameTrianglesAgain(t, p, other, 0, 2)
			checkSameTrianglesAgain(t, other, p, 3, 1)
		}
	}
	for _, c := range append(nearPairs, farPairs...) {
		checkSameTrianglesAgain(t, poly(c.a), poly(c.b), 1, 3)
		checkSameTrianglesAgain(t, poly(c.b), poly(c.a), 2, 0)
	}
	for _, i := range farCoordinates {
		for _, k := range farCoordinates {
			checkSameTrianglesAgain(t, poly(elbow), poly(block), i, k)
		}
	}
	forBadPolygons(func(_ string, p []impl.Point) {
		checkSameTrianglesAgain(t, p, p, 0, 2)
		checkSameTrianglesAgain(t, p, poly(block), math.MinInt64, math.MaxInt64)
		checkSameTrianglesAgain(t, poly(block), p, 0, math.MaxInt64)
	})
}

func TestFarPointsMakeNoTriangles(t *testing.T) {
	forFarLists(func(p []impl.Point, x, y int64) {
		checkSameTrianglesAgain(t, p, poly(fork), x, y)
		checkSameTrianglesAgain(t, poly(gate), p, 1, 2)
	})
}

func TestFarPointsOfATriangle(t *testing.T) {
	forFarPairs([8]int64{0, 0, 9, 0, 0, 9, 3, 3}, func(n [8]int64, _, _ int64) {
		a, b, c, q := pt(n[0], n[1]), pt(n[2], n[3]), pt(n[4], n[5]), pt(n[6], n[7])
		valid := impl.ValidPoint(a) && impl.ValidPoint(b) && impl.ValidPoint(c) && impl.ValidPoint(q)
		if got := impl.InTriangle(a, b, c, q); got != impl.InTriangle(a, b, c, q) || got != (valid && inTriangleAsTold(a, b, c, q)) {
			t.Fatalf("InTriangle(%v, %v, %v, %v) is %v", a, b, c, q, got)
		}
	})
}

func TestNilAndEmptyTrianglesAreEquivalent(t *testing.T) {
	empty := []impl.Point{}
	for _, pair := range [][4][]impl.Point{{nil, nil, empty, empty}, {nil, poly(block), empty, poly(block)}, {poly(block), nil, poly(block), empty}, {nil, empty, empty, nil}} {
		if first, second := triangleResults(pair[0], pair[1], 0, 0), triangleResults(pair[2], pair[3], 0, 0); first != second {
			t.Errorf("%v: %s and then %s", pair, first, second)
		}
	}
}

// TestArgumentsMayShareMemory calls with two polygons that lie in one list, one behind the other, and one within the other.
func TestArgumentsMayShareMemory(t *testing.T) {
	whole := slices.Concat(poly(block), poly("10,0 20,0 20,10 10,10"), poly("20,0 30,0 30,10"))
	want := slices.Clone(whole)
	for _, pair := range [][2][]impl.Point{{whole[:4], whole[4:8]}, {whole[4:8], whole[:4]}, {whole[:4], whole[:4]}, {whole[4:7], whole[4:8]}, {whole[4:8], whole[8:]}, {whole[1:4], whole[:3]}} {
		first := triangleResults(pair[0], pair[1], 0, 2)
		if second := triangleResults(slices.Clone(pair[0]), slices.Clone(pair[1]), 0, 2); first != second {
			t.Errorf("%v: %s, and with copies %s", pair, first, second)
		}
		if !slices.Equal(whole, want) {
			t.Fatalf("%v: the points are changed to %v", pair, whole)
		}
	}
}

func TestPointsOfTrianglesAreNewMemory(t *testing.T) {
	upper := map[string]string{block: "10,10 20,20 0,10", elbow: "10,10 20,10 20,20 10,20", "0,0 9,0 0,9": "9,0 9,9 0,9"}
	for name, change := range map[string]func(p []impl.Point, other string) []impl.Point{
		"JoinPolygons first": func(p []impl.Point, other string) []impl.Point { q, _ := impl.JoinPolygons(p, poly(other)); return q },
		"JoinPolygons last":  func(p []impl.Point, other string) []impl.Point { q, _ := impl.JoinPolygons(poly(other), p); return q },
		"HullOf":             func(p []impl.Point, _ string) []impl.Point { q, _ := impl.HullOf(p); return q },
	} {
		for lower, other := range upper {
			whole := withSpare(poly(lower), pt(7, 7))
			kept, second := change(whole[:len(whole)-40], other), change(whole[:len(whole)-40], other)
			want := slices.Clone(kept)
			fill(second[:cap(second)])
			if len(kept) < 3 || !slices.Equal(whole, withSpare(poly(lower), pt(7, 7))) {
				t.Errorf("%s: %v shares memory with %s", name, kept, lower)
			}
			fill(whole)
			if !slices.Equal(kept, want) || !slices.Equal(change(poly(lower), other), want) {
				t.Errorf("%s: the result for %s changes with another one or with the argument", name, lower)
			}
		}
	}
}

// TestListsOfTrianglesAreNewMemory writes a mark of its own into each list of a result, in both orders, so that a list that reaches into another one loses its mark.
func TestListsOfTrianglesAreNewMemory(t *testing.T) {
	for _, p := range goodPolygons() {
		whole := withSpare(p, pt(7, 7))
		triangles, _ := impl.Triangulate(whole[:len(p)])
		want := fmt.Sprint(triangles)
		other, _ := impl.Triangulate(p)
		pairs, _ := impl.DiagonalsOf(p)
		ears, _ := impl.EarsOf(p)
		if !staysApart(other, func(k int) impl.Point { return pt(int64(k), -1) }) || !staysApart(pairs, func(k int) int64 { return int64(k) }) || !staysApart([][]int64{ears}, func(int) int64 { return -1 }) {
			t.Errorf("two lists of a result for %v share memory", p)
		}
		if !slices.Equal(whole, withSpare(p, pt(7, 7))) || fmt.Sprint(triangles) != want {
			t.Errorf("the triangles of %v share memory with it or with others", p)
		}
		fill(whole)
		if again, _ := impl.Triangulate(p); fmt.Sprint(triangles) != want || fmt.Sprint(again) != want {
			t.Errorf("the triangles of %v change with it or with others", p)
		}
	}
}

// staysApart also writes into the spare capacity of each list.
func staysApart[T comparable](lists [][]T, mark func(k int) T) bool {
	for range 2 {
		for k, list := range lists {
			list = list[:cap(list)]
			for n := range list {
				list[n] = mark(k)
			}
		}
		for k, list := range lists {
			for _, value := range list {
				if value != mark(k) {
					return false
				}
			}
		}
		slices.Reverse(lists)
	}
	return true
}
