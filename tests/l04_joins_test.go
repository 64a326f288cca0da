package tests

import (
	"slices"
	"testing"

	"loop.example/g00956/impl"
)

const (
	elbow = "0,0 20,0 20,10 10,10 10,20 0,20"
	fork  = "0,0 20,0 20,20 10,10 0,20"
)

func TestJoinPolygons(t *testing.T) {
	for _, c := range []struct{ a, b, want string }{
		// Along one edge, wherever it lies in each of them. The points of the edge stay, even if they are straight then.
		{block, "10,0 20,0 20,10 10,10", "0,0 10,0 20,0 20,10 10,10 0,10"}, {block, "10,10 10,0 20,0 20,10", "0,0 10,0 20,0 20,10 10,10 0,10"}, {block, "20,10 10,10 10,0 20,0", "0,0 10,0 20,0 20,10 10,10 0,10"},
		{"10,0 10,10 0,10 0,0", "10,0 20,0 20,10 10,10", "10,10 0,10 0,0 10,0 20,0 20,10"}, {"10,10 0,10 0,0 10,0", "10,10 10,0 20,0 20,10", "10,10 0,10 0,0 10,0 20,0 20,10"},
		{"0,10 0,0 10,0 10,10", "20,0 20,10 10,10 10,0", "0,10 0,0 10,0 20,0 20,10 10,10"}, {"10,0 20,0 20,10 10,10", block, "10,0 20,0 20,10 10,10 0,10 0,0"},
		{"0,0 9,0 0,9", "9,0 9,9 0,9", "0,0 9,0 9,9 0,9"}, {"9,0 0,9 0,0", "0,9 9,0 9,9", "0,9 0,0 9,0 9,9"}, {"0,0 9,0 0,9", "9,0 20,20 0,9", "0,0 9,0 20,20 0,9"},
		{"0,0 20000,0 0,20000", "20000,0 20000,20000 0,20000", "0,0 20000,0 20000,20000 0,20000"}, {"0,0 20000,19999 20000,20000", "0,0 20000,20000 0,1", "0,0 20000,19999 20000,20000 0,1"},
		// Along several edges that follow one another: the points between them are gone.
		{elbow, "10,10 20,10 20,20 10,20", "0,0 20,0 20,10 20,20 10,20 0,20"}, {elbow, "10,20 10,10 20,10 20,20", "0,0 20,0 20,10 20,20 10,20 0,20"}, {elbow, "20,10 20,20 10,20 10,10", "0,0 20,0 20,10 20,20 10,20 0,20"},
		{"20,10 10,10 10,20 0,20 0,0 20,0", "10,10 20,10 20,20 10,20", "10,20 0,20 0,0 20,0 20,10 20,20"}, {"10,10 10,20 0,20 0,0 20,0 20,10", "10,10 20,10 20,20 10,20", "10,20 0,20 0,0 20,0 20,10 20,20"},
		{"10,20 0,20 0,0 20,0 20,10 10,10", "10,10 20,10 20,20 10,20", "10,20 0,20 0,0 20,0 20,10 20,20"}, {"10,10 20,10 20,20 10,20", elbow, "20,10 20,20 10,20 0,20 0,0 20,0"},
		{"0,20 10,10 20,20", fork, "20,20 0,20 0,0 20,0"}, {fork, "0,20 10,10 20,20", "0,0 20,0 20,20 0,20"}, {gate, "10,10 20,10 20,30 10,30", "0,0 30,0 30,30 20,30 10,30 0,30"}, {"20,10 20,30 10,30 10,10", gate, "20,30 10,30 0,30 0,0 30,0 30,30"},
		{"0,0 10,0 10,4 10,7 10,10 0,10", "10,0 20,0 20,10 10,10 10,7 10,4", "0,0 10,0 20,0 20,10 10,10 0,10"}, {block, "10,0 20,0 20,20 0,20 0,10 10,10", "0,0 10,0 20,0 20,20 0,20 0,10"},
	} {
		if got, code := impl.JoinPolygons(poly(c.a), poly(c.b)); !slices.Equal(got, poly(c.want)) || code != impl.OK {
			t.Errorf("JoinPolygons(%s, %s) is %v, %d, want %s", c.a, c.b, got, code, c.want)
		}
		checkJoinsOfAllStarts(t, poly(c.a), poly(c.b))
	}
}

func TestJoinPolygonsRefuses(t *testing.T) {
	for _, c := range []struct{ reason, a, b string }{
		{"they are not disjoint", block, block}, {"they are not disjoint", block, "5,5 20,5 20,20 5,20"}, {"they are not disjoint", plate, "10,10 20,10 20,20 10,20"}, {"they are not disjoint", plate, "0,0 30,0 30,20 0,20"},
		{"they are not disjoint, but have an edge in common", block, "10,0 20,0 20,20 2,20 2,8 8,8 8,12 10,12 10,10"}, {"they are not disjoint, but have an edge in common", "0,0 20,0 20,20 0,20", "20,0 30,0 30,30 10,30 10,15 15,25 20,20"},
		{"they are apart", block, "13,0 20,0 20,10 13,10"}, {"they have a corner in common", block, "10,10 20,10 20,20"}, {"they have a corner and a part of an edge in common", block, "10,10 10,4 20,10"},
		{"they have a part of an edge in common", block, "10,2 20,2 20,8 10,8"}, {"they have a part of an edge in common", block, "10,0 20,0 20,6 10,6"}, {"only one has a straight point", "0,0 10,0 10,4 10,10 0,10", "10,0 20,0 20,10 10,10"},
		{"their straight points differ", "0,0 10,0 10,4 10,10 0,10", "10,0 20,0 20,10 10,10 10,7"}, {"they have an edge in the same direction", block, "10,0 10,10 5,5"},
		{"two edges that are left begin at one point", elbow, "10,10 20,10 20,20 10,20 15,15"}, {"two edges that are left begin at one point", elbow, "10,10 20,10 20,20 10,20 10,15"}, {"two edges that are left begin at one point", gate, "0,30 10,30 15,35 30,30 30,40 0,40"},
		{"a hole is left", gate, "0,30 10,30 20,30 30,30 30,40 0,40"}, {"a hole is left", "20,30 20,10 10,10 10,30 0,30 0,0 30,0 30,30", "0,30 10,30 20,30 30,30 30,40 0,40"}, {"a hole is left", gate, "10,30 20,30 30,30 30,40 0,40 0,30"},
		{"a hole is left", "0,0 30,0 30,10 10,10 10,20 30,20 30,30 0,30", "30,0 40,0 40,30 30,30 30,20 20,15 30,10"}, {"a corner would lie on an edge", elbow, "10,10 20,10 20,20 10,15 15,12"}, {"a corner would lie on an edge", elbow, "10,10 20,10 20,30 10,15 12,14"},
		{"an edge would go back", elbow, "10,10 20,10 20,18 10,18"}, {"an edge would go back", "0,0 10,0 10,4 10,10 0,10", "10,0 20,0 20,10 10,10 10,7 10,4"}, {"an edge would go back", elbow, "10,10 20,10 20,30 10,30"},
	} {
		for k := range 24 {
			a, b := startAt(poly(c.a), k%4), startAt(poly(c.b), k)
			if got, code := impl.JoinPolygons(a, b); len(got) != 0 || code != impl.ErrState {
				t.Errorf("JoinPolygons(%v, %v) is %v, %d, but %s", a, b, got, code, c.reason)
			}
			if got, code := impl.JoinPolygons(b, a); len(got) != 0 || code != impl.ErrState {
				t.Errorf("JoinPolygons(%v, %v) is %v, %d, but %s", b, a, got, code, c.reason)
			}
		}
	}
	// With all edges in the opposite direction, the other polygon goes around to the right.
	for _, p := range goodPolygons() {
		if got, code := impl.JoinPolygons(p, mirrored(p)); len(got) != 0 || code != impl.ErrInvalid {
			t.Errorf("JoinPolygons(%v, %v) is %v, %d", p, mirrored(p), got, code)
		}
	}
}

// startAt takes any index.
func startAt(p []impl.Point, k int) []impl.Point {
	k %= len(p)
	return slices.Concat(p[k:], p[:k])
}

// TestJoinPolygonsCountsItsPoints joins along one edge, so that the result has two points fewer than both.
func TestJoinPolygonsCountsItsPoints(t *testing.T) {
	for n := 3; n <= impl.MaxCorners; n++ {
		a := moved(saw(n), 0, 50)
		for m := 3; m <= impl.MaxCorners; m++ {
			// The teeth point downwards to the edge of a.
			b := []impl.Point{pt(0, 50)}
			for k := range m - 2 {
				b = append(b, pt(int64(4*k+2), int64(20+10*(k%2))))
			}
			b = append(b, pt(100, 50))
			got, code := impl.JoinPolygons(a, b)
			want := slices.Concat(b, a[2:])
			if n+m-2 > impl.MaxCorners {
				want = nil
			}
			if want == nil && (len(got) != 0 || code != impl.ErrState) || want != nil && (!impl.SamePolygon(got, want) || code != impl.OK) {
				t.Errorf("%d and %d points are joined to %v, %d", n, m, got, code)
			}
		}
	}
}

// joinAsTold follows the words of the document for two polygons that are disjoint.
func joinAsTold(a, b []impl.Point) ([]impl.Point, bool) {
	all := append(edgesOf(a), edgesOf(b)...)
	var left [][2]impl.Point
	for _, edge := range all {
		if !slices.Contains(all, [2]impl.Point{edge[1], edge[0]}) {
			left = append(left, edge)
		}
	}
	if len(left) == 0 || len(left) == len(all) {
		return nil, false
	}
	var way []impl.Point
	for at := left[0]; ; {
		way = append(way, at[0])
		behind := slices.DeleteFunc(slices.Clone(left), func(edge [2]impl.Point) bool { return edge[0] != at[1] })
		if len(behind) != 1 {
			return nil, false
		}
		if at = behind[0]; at == left[0] {
			return way, len(way) == len(left) && validAsTold(way)
		}
	}
}

func edgesOf(p []impl.Point) [][2]impl.Point {
	var edges [][2]impl.Point
	for k, corner := range p {
		edges = append(edges, [2]impl.Point{corner, p[(k+1)%len(p)]})
	}
	return edges
}

// checkJoinsOfAllStarts joins two disjoint polygons that begin with each of their points, and is promise 5 for them.
func checkJoinsOfAllStarts(t *testing.T, a, b []impl.Point) {
	t.Helper()
	for i := range a {
		for k := range b {
			checkJoin(t, startAt(a, i), startAt(b, k))
			checkJoin(t, startAt(b, k), startAt(a, i))
		}
	}
}

// checkJoin compares with the words of the document, and reports whether disjoint polygons are joined.
func checkJoin(t *testing.T, a, b []impl.Point) bool {
	t.Helper()
	got, code := impl.JoinPolygons(a, b)
	want, joined := joinAsTold(a, b)
	if !joined {
		if len(got) != 0 || code != impl.ErrState {
			t.Fatalf("JoinPolygons(%v, %v) is %v, %d", a, b, got, code)
		}
		return false
	}
	if !slices.Equal(got, want) || code != impl.OK || !impl.ValidPolygon(got) {
		t.Fatalf("JoinPolygons(%v, %v) is %v, %d, want %v", a, b, got, code, want)
	}
	first, _ := impl.AreaTwice(a)
	second, _ := impl.AreaTwice(b)
	if both, _ := impl.AreaTwice(got); both != first+second {
		t.Fatalf("%v and %v have the doubled areas %d and %d, but joined %d", a, b, first, second, both)
	}
	return true
}

// TestAllJoinsOfSmallPolygons is the second half of promise 5, with all pairs of small polygons.
func TestAllJoinsOfSmallPolygons(t *testing.T) {
	joins := 0
	forGridPairs(20, func(a, b gridPolygon, disjoint bool) {
		if !disjoint {
			if got, code := impl.JoinPolygons(a.points, b.points); len(got) != 0 || code != impl.ErrState {
				t.Fatalf("JoinPolygons(%v, %v) is %v, %d", a.points, b.points, got, code)
			}
			return
		}
		if !checkJoin(t, startAt(a.points, joins), startAt(b.points, joins/2)) {
			return
		}
		joins++
		if got, _ := impl.JoinPolygons(b.points, a.points); a.cells|b.cells != cellsOf(got) {
			t.Fatalf("JoinPolygons(%v, %v) is %v, with other points inside", b.points, a.points, got)
		}
	})
	if joins < 1000 {
		t.Errorf("only %d pairs are joined", joins)
	}
}

// TestPolygonsAreJoinedAgain divides each polygon at each of its diagonals.
func TestPolygonsAreJoinedAgain(t *testing.T) {
	for _, p := range append(goodPolygons(), smallPolygons()...) {
		pairs, _ := impl.DiagonalsOf(p)
		for _, pair := range pairs {
			a, b := p[pair[0]:pair[1]+1], slices.Concat(p[pair[1]:], p[:pair[0]+1])
			if !impl.Disjoint(a, b) || !checkJoin(t, a, b) {
				t.Fatalf("%v, divided at %v, is not joined", p, pair)
			}
			if got, _ := impl.JoinPolygons(b, a); !impl.SamePolygon(got, p) {
				t.Fatalf("%v, divided at %v, is joined to %v", p, pair, got)
			}
			if gap, code := impl.PolygonDistance(a, b); gap != 0 || code != impl.OK {
				t.Fatalf("the parts of %v, divided at %v, are %d apart, %d", p, pair, gap, code)
			}
		}
	}
}
