package tests

import (
	"fmt"
	"math"
	"slices"
	"testing"

	"loop.example/g00956/impl"
)

// inTriangleAsTold compares the triangle with those that its edges make with q: they are larger together if q lies outside.
func inTriangleAsTold(a, b, c, q impl.Point) bool {
	whole := magnitudeOf(product(a, b, a, c))
	parts := magnitudeOf(product(q, a, q, b)) + magnitudeOf(product(q, b, q, c)) + magnitudeOf(product(q, c, q, a))
	return whole > 0 && whole == parts
}

func TestInTriangle(t *testing.T) {
	for _, c := range []struct{ triangle, within, outside string }{
		{"0,0 10,0 10,10", "0,0 10,0 10,10 5,5 5,0 10,5 9,1 9,9 1,0 6,5", "5,6 0,1 11,0 11,11 20,20 11,5 0,10 4,5 9,10 20,0 10,11 10,20"},
		{"2,3 14,6 8,12", "2,3 14,6 8,12 6,4 10,5 12,8 11,9 6,9 4,6 8,7 3,4 8,11", "18,7 17,3 6,14 16,4 0,0 10,15 10,4 6,3 4,7 12,9 11,10 3,3 2,4 14,7 20000,20000"},
		{"5,5 5,9 1,7", "5,5 5,9 1,7 5,7 3,6 3,8 2,7 4,7", "5,4 5,10 0,7 6,7 1,6 3,5 3,9 9,9 6,6"},
		{"0,0 20000,0 0,20000", "0,0 20000,0 0,20000 1,19999 10000,10000 1,1 0,7 7,0", "20000,20000 1,20000 20000,1 10001,10000 10000,10001"},
		{"0,0 20000,19999 20000,20000", "0,0 10000,10000 20000,19999 20000,20000", "1,0 0,1 19999,20000 10000,9999 19999,19998 20000,19998"},
		// On a line, and with equal points, nothing is inside.
		{"0,0 4,4 8,8", "", "0,0 4,4 8,8 2,2 6,6 9,9 1,2"}, {"4,4 0,0 8,8", "", "4,4 0,0 2,2"}, {"0,0 8,8 4,4", "", "4,4 5,5"}, {"3,3 3,9 3,5", "", "3,3 3,4 3,5 3,8"},
		{"3,3 3,3 9,3", "", "3,3 9,3 6,3 4,4"}, {"3,3 9,3 3,3", "", "3,3 9,3 6,3"}, {"9,3 3,3 3,3", "", "3,3 9,3 6,3"}, {"7,7 7,7 7,7", "", "7,7 0,0 7,8"},
	} {
		points := poly(c.triangle)
		// All orders of the three points: those to the left around, and those to the right.
		for _, k := range [][3]int{{0, 1, 2}, {1, 2, 0}, {2, 0, 1}, {0, 2, 1}, {2, 1, 0}, {1, 0, 2}} {
			a, b, c3 := points[k[0]], points[k[1]], points[k[2]]
			for _, q := range poly(c.within) {
				if !impl.InTriangle(a, b, c3, q) {
					t.Errorf("%v lies in the triangle %v %v %v", q, a, b, c3)
				}
			}
			for _, q := range poly(c.outside) {
				if impl.InTriangle(a, b, c3, q) {
					t.Errorf("%v does not lie in the triangle %v %v %v", q, a, b, c3)
				}
			}
		}
	}
	forQuadruples(func(a, b, c, q impl.Point) {
		if got := impl.InTriangle(a, b, c, q); got != inTriangleAsTold(a, b, c, q) {
			t.Fatalf("InTriangle(%v, %v, %v, %v) is %v", a, b, c, q, got)
		}
	})
}

func TestInTriangleNeedsValidPoints(t *testing.T) {
	for _, points := range [][4]impl.Point{{pt(0, 0), pt(9, 0), pt(0, 9), pt(3, 3)}, {pt(0, 0), pt(0, most), pt(most, 0), pt(0, 0)}, {pt(5, 5), pt(9, 5), pt(5, 9), pt(7, 7)}} {
		for place := range 4 {
			for _, bad := range badPoints() {
				q := points
				q[place] = bad
				if impl.InTriangle(q[0], q[1], q[2], q[3]) {
					t.Errorf("InTriangle%v is true", q)
				}
			}
		}
	}
	// A triangle beyond the limit would have the point inside.
	if impl.InTriangle(pt(-1, -1), pt(30, -1), pt(-1, 30), pt(3, 3)) || impl.InTriangle(pt(0, 0), pt(most+1, 0), pt(0, most+1), pt(3, 3)) {
		t.Error("a triangle with points that are not valid has a point inside")
	}
}

// diagonalAsTold divides the polygon: at a diagonal, and only there, both parts are polygons.
func diagonalAsTold(p []impl.Point, i, k int) bool {
	i, k = min(i, k), max(i, k)
	return i != k && validAsTold(p[i:k+1]) && validAsTold(slices.Concat(p[k:], p[:i+1]))
}

// diagonalTexts are polygons, with the pairs of indices of their diagonals.
var diagonalTexts = []struct {
	text string
	want [][]int64
}{
	{"0,0 9,0 0,9", nil}, {"7,3 12,5 9,11", nil}, {"0,0 20000,0 20000,20000", nil},
	{"5,5 9,5 9,9 5,9", [][]int64{{0, 2}, {1, 3}}}, {"5,0 10,5 5,10 0,5", [][]int64{{0, 2}, {1, 3}}}, {"0,0 20000,0 20000,20000 0,20000", [][]int64{{0, 2}, {1, 3}}},
	{"4,0 8,0 12,4 8,8 4,8 0,4", [][]int64{{0, 2}, {0, 3}, {0, 4}, {1, 3}, {1, 4}, {1, 5}, {2, 4}, {2, 5}, {3, 5}}},
	// A point on a straight edge: none runs along the edge, or on from it.
	{"0,0 4,0 9,0 0,9", [][]int64{{1, 3}}}, {"0,0 9,0 6,3 3,6 0,9", [][]int64{{0, 2}, {0, 3}}}, {"0,0 1,0 2,0 8,0 9,0 0,9", [][]int64{{1, 5}, {2, 5}, {3, 5}}}, {"4,0 9,0 0,8 0,0", [][]int64{{0, 2}}},
	{"0,0 4,0 8,0 8,4 8,8 0,8", [][]int64{{0, 3}, {0, 4}, {1, 3}, {1, 4}, {1, 5}, {2, 5}, {3, 5}}},
	// Corners that point inwards: outside, through a corner, on from an edge beyond a corner, across an edge.
	{"0,0 20,0 20,20 10,3 0,20", [][]int64{{0, 3}, {1, 3}}}, {"0,0 90,0 90,30 30,30 30,60 0,60", [][]int64{{0, 2}, {0, 3}, {0, 4}, {1, 3}, {3, 5}}},
	{"0,0 10,0 10,4 4,4 4,10 0,10", [][]int64{{0, 2}, {0, 3}, {0, 4}, {1, 3}, {3, 5}}}, {"0,0 8,0 8,8 4,4 0,8", [][]int64{{0, 3}, {1, 3}}}, {"0,0 6,0 6,6 9,6 9,9 0,9", [][]int64{{0, 2}, {1, 5}, {2, 4}, {2, 5}, {3, 5}}},
	{"0,0 10,0 10,2 2,2 2,8 10,8 10,10 0,10", [][]int64{{0, 2}, {0, 3}, {0, 4}, {1, 3}, {3, 7}, {4, 6}, {4, 7}, {5, 7}}},
	// An edge that goes on as a diagonal to a straight point.
	{"0,0 10,0 10,4 4,4 4,10 0,10 0,4", [][]int64{{0, 2}, {0, 3}, {0, 4}, {1, 3}, {1, 6}, {3, 5}, {3, 6}, {4, 6}}},
	{"20,0 24,16 40,20 24,24 20,40 16,24 0,20 16,16", [][]int64{{0, 3}, {0, 4}, {0, 5}, {1, 3}, {1, 4}, {1, 5}, {1, 6}, {1, 7}, {2, 5}, {2, 6}, {2, 7}, {3, 5}, {3, 6}, {3, 7}, {4, 7}, {5, 7}}},
}

func TestDiagonals(t *testing.T) {
	for _, c := range diagonalTexts {
		p := poly(c.text)
		got, code := impl.DiagonalsOf(p)
		if fmt.Sprint(got) != fmt.Sprint(c.want) || code != impl.OK {
			t.Errorf("DiagonalsOf(%s) is %v, %d, want %v", c.text, got, code, c.want)
		}
		for i := range int64(len(p)) {
			for k := range int64(len(p)) {
				want := slices.ContainsFunc(c.want, func(pair []int64) bool { return pair[0] == min(i, k) && pair[1] == max(i, k) })
				if got := impl.IsDiagonal(p, i, k); got != want {
					t.Errorf("IsDiagonal(%s, %d, %d) is %v", c.text, i, k, got)
				}
			}
		}
	}
}

func TestDiagonalsNeedIndices(t *testing.T) {
	for _, p := range goodPolygons() {
		n := int64(len(p))
		for _, k := range []int64{-1, -2, -n, n, n + 1, n + 2, 2 * n, 1 << 32, -1 << 32, math.MinInt64, math.MinInt64 + 2, math.MaxInt64} {
			for i := range n {
				if impl.IsDiagonal(p, i, k) || impl.IsDiagonal(p, k, i) || impl.IsDiagonal(p, k, k) || impl.IsDiagonal(p, k, k+2) {
					t.Errorf("IsDiagonal(%v, %d, %d) is true", p, i, k)
				}
			}
		}
		for i := range n {
			if next := (i + 1) % n; impl.IsDiagonal(p, i, i) || impl.IsDiagonal(p, i, next) || impl.IsDiagonal(p, next, i) {
				t.Errorf("%v has a diagonal from %d to itself or to the next point", p, i)
			}
		}
	}
}

func TestAllDiagonals(t *testing.T) {
	for _, p := range append(goodPolygons(), smallPolygons()...) {
		var want [][]int64
		for i := range p {
			for k := range p {
				told := diagonalAsTold(p, i, k)
				if got := impl.IsDiagonal(p, int64(i), int64(k)); got != told {
					t.Fatalf("IsDiagonal(%v, %d, %d) is %v", p, i, k, got)
				}
				if told && i < k {
					want = append(want, []int64{int64(i), int64(k)})
				}
			}
		}
		if got, code := impl.DiagonalsOf(p); fmt.Sprint(got) != fmt.Sprint(want) || code != impl.OK {
			t.Fatalf("DiagonalsOf(%v) is %v, %d, want %v", p, got, code, want)
		}
	}
}

// earAsTold follows the words of the document, with computations of the tests' own.
func earAsTold(p []impl.Point, k int) bool {
	n := len(p)
	before, behind := (k+n-1)%n, (k+1)%n
	if product(p[before], p[k], p[before], p[behind]) <= 0 {
		return false
	}
	for m, q := range p {
		if m != before && m != k && m != behind && inTriangleAsTold(p[before], p[k], p[behind], q) {
			return false
		}
	}
	return true
}

func TestEarsOf(t *testing.T) {
	for _, c := range []struct {
		text string
		want []int64
	}{
		{"0,0 9,0 0,9", []int64{0, 1, 2}}, {"0,0 1,0 0,1", []int64{0, 1, 2}}, {"5,5 9,5 9,9 5,9", []int64{0, 1, 2, 3}}, {"4,0 8,0 12,4 8,8 4,8 0,4", []int64{0, 1, 2, 3, 4, 5}},
		{"0,0 10,0 10,4 4,4 4,10 0,10", []int64{1, 2, 4, 5}}, {"0,0 90,0 90,30 30,30 30,60 0,60", []int64{1, 2, 4, 5}}, {"0,0 20,0 20,20 10,3 0,20", []int64{2, 4}},
		// A straight point is no ear, and one on an edge of a triangle makes it no ear.
		{"0,0 4,0 9,0 0,9", []int64{0, 2}}, {"0,0 1,0 2,0 8,0 9,0 9,9 0,9", []int64{0, 4, 5, 6}}, {"0,0 9,0 6,3 3,6 0,9", []int64{1, 4}}, {"0,0 4,0 8,0 8,4 8,8 4,8 0,8 0,4", []int64{0, 2, 4, 6}},
		// A corner that points inwards lies on the edge of the triangle of the second point, and then just beside it.
		{"0,0 8,0 8,8 4,4 0,8", []int64{2, 4}}, {"0,0 8,0 8,8 4,5 0,8", []int64{0, 1, 2, 4}}, {"0,0 8,0 8,8 4,3 0,8", []int64{2, 4}},
		// A corner of the polygon lies on the way from the point before to the point behind.
		{"0,0 6,0 6,6 9,6 9,9 0,9", []int64{0, 1, 3, 4}}, {"0,0 12,0 12,12 9,12 9,9 6,6 3,12 0,12", []int64{2, 3, 6, 7}},
		{"20,0 24,16 40,20 24,24 20,40 16,24 0,20 16,16", []int64{0, 2, 4, 6}}, {"0,0 20000,0 20000,20000 0,20000", []int64{0, 1, 2, 3}}, {"0,0 20000,0 10000,1 20000,20000 0,20000", []int64{1, 3, 4}},
	} {
		if got, code := impl.EarsOf(poly(c.text)); !slices.Equal(got, c.want) || code != impl.OK {
			t.Errorf("EarsOf(%s) is %v, %d, want %v", c.text, got, code, c.want)
		}
	}
	for _, p := range append(goodPolygons(), smallPolygons()...) {
		var want []int64
		for k := range p {
			if earAsTold(p, k) {
				want = append(want, int64(k))
			}
		}
		got, code := impl.EarsOf(p)
		if !slices.Equal(got, want) || code != impl.OK || len(got) < 2 {
			t.Fatalf("EarsOf(%v) is %v, %d, want %v", p, got, code, want)
		}
		for k := range p {
			// Behind an ear lies a diagonal, if there are points beyond it.
			n := len(p)
			if ear := slices.Contains(got, int64(k)); n > 3 && ear != diagonalAsTold(p, (k+n-1)%n, (k+1)%n) {
				t.Fatalf("%d is an ear of %v: %v", k, p, ear)
			}
		}
	}
}

func TestTriangulate(t *testing.T) {
	for _, c := range []struct{ text, want string }{
		{"0,0 10,0 10,10 0,10", "[[{0 10} {0 0} {10 0}] [{10 0} {10 10} {0 10}]]"},
		{"0,0 9,0 0,9", "[[{0 0} {9 0} {0 9}]]"}, {"9,0 0,9 0,0", "[[{9 0} {0 9} {0 0}]]"},
		{"0,0 10,0 10,4 4,4 4,10 0,10", "[[{0 0} {10 0} {10 4}] [{0 0} {10 4} {4 4}] [{0 10} {0 0} {4 4}] [{4 4} {4 10} {0 10}]]"},
		{"0,0 4,0 9,0 0,9", "[[{0 9} {0 0} {4 0}] [{4 0} {9 0} {0 9}]]"}, {"4,0 9,0 0,9 0,0", "[[{4 0} {9 0} {0 9}] [{4 0} {0 9} {0 0}]]"},
		{"0,0 20,0 20,20 10,3 0,20", "[[{20 0} {20 20} {10 3}] [{0 0} {20 0} {10 3}] [{0 0} {10 3} {0 20}]]"},
	} {
		if got, code := impl.Triangulate(poly(c.text)); fmt.Sprint(got) != c.want || code != impl.OK {
			t.Errorf("Triangulate(%s) is %v, %d, want %s", c.text, got, code, c.want)
		}
	}
}

// trianglesAsTold cuts off one ear after the other.
func trianglesAsTold(p []impl.Point) [][]impl.Point {
	rest := slices.Clone(p)
	var all [][]impl.Point
	for len(rest) > 3 {
		n, k := len(rest), 0
		for !earAsTold(rest, k) {
			k++
		}
		all = append(all, []impl.Point{rest[(k+n-1)%n], rest[k], rest[(k+1)%n]})
		rest = slices.Delete(rest, k, k+1)
	}
	return append(all, rest)
}

// TestTrianglesHaveTheArea is the first half of promise 5.
func TestTrianglesHaveTheArea(t *testing.T) {
	for _, good := range append(goodPolygons(), smallPolygons()...) {
		for start := range good {
			p := slices.Concat(good[start:], good[:start])
			got, code := impl.Triangulate(p)
			if want := trianglesAsTold(p); fmt.Sprint(got) != fmt.Sprint(want) || len(got) != len(p)-2 || code != impl.OK {
				t.Fatalf("Triangulate(%v) is %v, %d, want %v", p, got, code, want)
			}
			var sum int64
			for _, triangle := range got {
				area, code := impl.AreaTwice(triangle)
				if code != impl.OK {
					t.Fatalf("Triangulate(%v) has %v", p, triangle)
				}
				sum += area
			}
			if want, _ := impl.AreaTwice(p); sum != want {
				t.Fatalf("%v has the doubled area %d, but its triangles %d", p, want, sum)
			}
			if first, _ := impl.EarsOf(p); len(p) > 3 && got[0][1] != p[first[0]] {
				t.Fatalf("the first ear of %v is %v, but the first triangle %v", p, first, got[0])
			}
		}
	}
}

// TestTrianglesLieApart compares each two triangles of a polygon, and joins all of them again in reverse order.
func TestTrianglesLieApart(t *testing.T) {
	for _, p := range goodPolygons() {
		all, _ := impl.Triangulate(p)
		for k, triangle := range all {
			for _, other := range all[k+1:] {
				if !impl.Disjoint(triangle, other) {
					t.Fatalf("the triangles %v and %v of %v are not disjoint", triangle, other, p)
				}
			}
		}
		joined := all[len(all)-1]
		for k := len(all) - 2; k >= 0; k-- {
			both, code := impl.JoinPolygons(joined, all[k])
			if code != impl.OK {
				t.Fatalf("of %v, %v and %v are joined with the code %d", p, joined, all[k], code)
			}
			joined = both
		}
		if !impl.SamePolygon(joined, p) {
			t.Fatalf("the triangles of %v joined again are %v", p, joined)
		}
	}
}

func TestTrianglesRefuse(t *testing.T) {
	forBadPolygons(func(reason string, p []impl.Point) {
		for _, k := range []int64{0, 1, 2, 3, -1, int64(len(p)) - 1, int64(len(p)), math.MinInt64, math.MaxInt64} {
			if impl.IsDiagonal(p, 0, k) || impl.IsDiagonal(p, k, 1) || impl.IsDiagonal(p, k, k) {
				t.Errorf("%v has a diagonal at %d: %s", p, k, reason)
			}
		}
		if got, code := impl.DiagonalsOf(p); len(got) != 0 || code != impl.ErrInvalid {
			t.Errorf("DiagonalsOf(%v) is %v, %d: %s", p, got, code, reason)
		}
		if got, code := impl.EarsOf(p); len(got) != 0 || code != impl.ErrInvalid {
			t.Errorf("EarsOf(%v) is %v, %d: %s", p, got, code, reason)
		}
		if got, code := impl.Triangulate(p); len(got) != 0 || code != impl.ErrInvalid {
			t.Errorf("Triangulate(%v) is %v, %d: %s", p, got, code, reason)
		}
	})
}
