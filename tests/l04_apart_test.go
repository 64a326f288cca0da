package tests

import (
	"math"
	"slices"
	"sync"
	"testing"

	"loop.example/g00956/impl"
)

const (
	block = "0,0 10,0 10,10 0,10"
	gate  = "0,0 30,0 30,30 20,30 20,10 10,10 10,30 0,30"
	plate = "0,0 30,0 30,30 0,30"
	hook  = "0,0 40,0 40,10 10,10 10,40 0,40"
	star  = "20,0 24,16 40,20 24,24 20,40 16,24 0,20 16,16"
)

// polygonPair has two polygons, with whether they have no inner point in common, and their distance.
type polygonPair struct {
	a, b     string
	disjoint bool
	distance int64
}

// nearPairs have coordinates of at most 100.
var nearPairs = []polygonPair{
	// Apart, to several sides, with roots that are rounded down.
	{block, "13,0 20,0 20,10 13,10", true, 3}, {block, "13,14 20,14 20,20", true, 5}, {block, "11,11 20,11 20,20", true, 1}, {block, "12,12 20,12 20,20", true, 2},
	{block, "2,13 9,13 5,20", true, 3}, {block, "12,5 20,0 20,20", true, 2}, {block, "90,90 95,90 95,97", true, 113}, {"0,0 9,0 0,9", "5,5 20,5 20,20", true, 0},
	{"0,0 9,0 0,9", "6,6 20,5 20,20", true, 2}, {"0,0 9,0 0,9", "9,9 5,9 9,5", true, 3}, {"0,0 9,1 0,1", "0,2 9,3 9,4 0,4", true, 1}, {"0,0 90,0 90,10 0,10", "40,17 50,17 45,30", true, 7}, {"0,0 30,1 0,2", "29,0 40,0 40,9", true, 0},
	// In the notch of the other, where their boxes overlap.
	{gate, "13,14 17,14 17,40 13,40", true, 3}, {gate, "15,12 15,30 14,30", true, 2}, {gate, "12,20 18,20 18,25 12,25", true, 2}, {gate, "10,20 20,20 15,29", true, 0},
	{gate, "10,10 20,10 20,30 10,30", true, 0}, {hook, "13,14 30,14 30,30", true, 3}, {hook, "10,10 40,10 40,40 10,40", true, 0}, {hook, "15,15 50,15 50,50 45,50 45,20 15,20", true, 5},
	{hook, "13,13 14,13 14,50 60,50 60,60 13,60", true, 3}, {star, "30,30 40,30 40,40 30,40", true, 7}, {star, "24,24 40,25 40,40 25,40", true, 0},
	// At a corner, and at a corner within an edge, of one or the other.
	{block, "10,10 20,10 20,20", true, 0}, {block, "10,10 20,0 20,20", true, 0}, {block, "10,4 20,0 20,20", true, 0}, {"0,0 10,5 0,10", "10,0 20,0 20,10 10,10", true, 0},
	{"0,0 9,0 0,9", "3,6 9,5 9,9", true, 0}, {gate, "10,20 19,15 19,25", true, 0}, {gate, "10,20 20,25 12,30", true, 0}, {star, "24,16 40,0 40,10", true, 0},
	// Along a part of an edge: within it, over its end, from its end on; along a whole edge, and along several.
	{block, "10,2 20,2 20,8 10,8", true, 0}, {block, "10,5 20,5 20,18 10,18", true, 0}, {block, "10,0 20,0 20,6 10,6", true, 0}, {block, "10,4 20,0 20,20 10,10", true, 0},
	{"0,0 8,8 0,8", "2,2 9,2 9,9", true, 0}, {"0,0 8,8 0,8", "4,4 9,2 6,6", true, 0}, {block, "10,0 20,0 20,10 10,10", true, 0}, {block, "10,0 17,5 10,10", true, 0}, {"0,0 8,8 0,8", "0,0 8,0 8,8", true, 0},
	{block, "10,0 20,0 20,20 0,20 0,10 10,10", true, 0}, {"0,0 10,0 10,4 10,10 0,10", "10,0 20,0 20,10 10,10 10,7", true, 0}, {"0,0 20,0 20,20 10,10 0,20", "0,20 10,10 20,20", true, 0},
	// Edges that cross.
	{block, "5,5 20,5 20,20 5,20", false, 0}, {"0,4 12,4 12,8 0,8", "4,0 8,0 8,12 4,12", false, 0}, {"0,0 20,0 10,18", "10,0 20,12 0,12", false, 0}, {"0,0 9,0 0,9", "4,4 9,5 9,9", false, 0},
	{"0,0 9,0 0,9", "3,5 9,5 9,9", false, 0}, {gate, "9,20 20,20 15,29", false, 0}, {gate, "5,15 25,15 25,25 5,25", false, 0}, {star, "30,10 34,10 12,34 10,30", false, 0}, {"0,0 30,1 0,2", "29,0 40,0 40,20", false, 0},
	// Equal, begun at another point, and the same border with other straight points.
	{block, block, false, 0}, {block, "10,10 0,10 0,0 10,0", false, 0}, {"0,0 9,0 0,9", "9,0 0,9 0,0", false, 0}, {star, "24,24 20,40 16,24 0,20 16,16 20,0 24,16 40,20", false, 0},
	{"0,0 3,0 8,0 8,3 8,8 5,8 0,8 0,5", "0,0 5,0 8,0 8,5 8,8 3,8 0,8 0,3", false, 0}, {block, "0,0 4,0 10,0 10,10 0,10", false, 0},
	// Turned about the other, with edges that meet at corners only: of both, or of one of them.
	{"0,4 4,4 8,4 12,4 12,8 8,8 4,8 0,8", "4,0 8,0 8,4 8,8 8,12 4,12 4,8 4,4", false, 0}, {"0,4 12,4 12,8 0,8", "4,0 8,0 8,4 8,8 8,12 4,12 4,8 4,4", false, 0},
	{"0,0 20,0 20,20 10,10 0,20", "0,0 20,0 20,20 0,20 10,10", false, 0}, {"0,0 12,0 12,6 6,6 6,12 0,12", "0,0 12,0 12,12 6,12 6,6 0,6", false, 0}, {"10,0 20,10 10,20 0,10", "5,5 15,5 15,15 5,15", false, 0},
	{"10,0 15,5 20,10 15,15 10,20 5,15 0,10 5,5", "5,5 15,5 15,15 5,15", false, 0}, {"4,0 8,0 12,4 12,8 8,12 4,12 0,8 0,4", "0,0 12,0 12,12 0,12", false, 0}, {"0,0 6,0 12,0 9,6 6,12 3,6", "6,0 9,6 3,6", false, 0},
	{"10,0 15,5 20,10 15,15 10,20 5,15 0,10 5,5", "10,0 12,8 20,10 12,12 10,20 8,12 0,10 8,8", false, 0},
	// One inside of the other: with nothing in common, with corners on edges and at corners, with parts of edges, with whole edges.
	{plate, "10,10 20,10 20,20 10,20", false, 0}, {plate, "10,0 20,10 10,20", false, 0}, {plate, "0,0 20,10 10,20", false, 0}, {plate, "15,0 30,15 15,30 0,15", false, 0}, {plate, "10,0 20,0 20,10 10,10", false, 0},
	{plate, "0,0 20,0 20,20 0,20", false, 0}, {plate, "0,0 30,0 30,20 0,20", false, 0}, {plate, "0,0 30,0 0,30", false, 0}, {plate, "0,0 30,0 30,30", false, 0}, {plate, gate, false, 0}, {plate, hook, false, 0},
	{gate, "1,1 29,1 29,9 1,9", false, 0}, {gate, "0,0 30,0 30,10 0,10", false, 0}, {gate, "1,10 10,10 10,30 1,29", false, 0}, {gate, "21,11 29,11 25,29", false, 0}, {star, "16,16 24,16 24,24 16,24", false, 0}, {star, "19,19 21,19 20,21", false, 0},
}

// farPairs lie at the limits of the coordinates.
var farPairs = []polygonPair{
	{"0,0 1,0 0,1", "20000,20000 19999,20000 20000,19999", true, 28282}, {"0,0 20000,0 20000,20000 0,20000", "19999,19999 20000,19999 19999,20000", false, 0},
	{"0,0 20000,19999 20000,20000", "0,0 20000,20000 0,1", true, 0}, {"0,0 20000,19999 20000,20000", "0,0 20000,0 20000,19999", true, 0}, {"0,0 20000,19999 20000,20000", "0,0 20000,0 19999,19999", false, 0},
	{"0,0 20000,19999 20000,20000", "1,0 20000,0 20000,19998", true, 0}, {"0,0 20000,0 0,20000", "20000,0 20000,20000 0,20000", true, 0}, {"0,0 20000,0 0,20000", "20000,1 20000,20000 1,20000", true, 0},
	{"0,0 20000,0 0,20000", "20000,2 20000,20000 2,20000", true, 1}, {"0,0 20000,0 0,20000", "19999,0 20000,20000 0,20000", false, 0}, {"0,0 20000,0 0,20000", "10000,10000 20000,20000 19999,20000", true, 0},
	{"0,0 20000,0 0,20000", "10000,9999 20000,20000 19999,20000", false, 0}, {"0,0 1,0 1,20000 0,20000", "19999,0 20000,0 20000,20000 19999,20000", true, 19998},
	{"0,0 20000,0 10000,1 20000,20000 10001,9999 0,20000 1,10000", "10001,2 20000,1 20000,19999", true, 0}, {"0,0 20000,0 10000,1 20000,20000 10001,9999 0,20000 1,10000", "9999,2 20000,1 20000,19999", false, 0},
}

// checkPair compares both orders of two polygons, from several of their points on.
func checkPair(t *testing.T, a, b []impl.Point, disjoint bool, distance int64) {
	t.Helper()
	for k := range max(len(a), len(b)) {
		p, q := slices.Concat(a[k%len(a):], a[:k%len(a)]), slices.Concat(b[k%len(b):], b[:k%len(b)])
		if first, second := impl.Disjoint(p, q), impl.Disjoint(q, p); first != disjoint || second != disjoint {
			t.Errorf("Disjoint(%v, %v) is %v and in the other order %v", p, q, first, second)
		}
		if got, code := impl.PolygonDistance(p, q); got != distance || code != impl.OK {
			t.Errorf("PolygonDistance(%v, %v) is %d, %d, want %d", p, q, got, code, distance)
		}
		if got, code := impl.PolygonDistance(q, p); got != distance || code != impl.OK {
			t.Errorf("PolygonDistance(%v, %v) is %d, %d, want %d", q, p, got, code, distance)
		}
	}
}

// turnedAbout turns a polygon about the point with two equal coordinates.
func turnedAbout(p []impl.Point, turn, centre int64) []impl.Point {
	q := moved(p, -centre, -centre)
	for k := range q {
		q[k] = turnedAsTold(q[k], turn)
	}
	if turn >= 4 {
		slices.Reverse(q)
	}
	return moved(q, centre, centre)
}

func TestPairsOfPolygons(t *testing.T) {
	for turn := range int64(8) {
		for _, c := range nearPairs {
			checkPair(t, turnedAbout(poly(c.a), turn, 50), turnedAbout(poly(c.b), turn, 50), c.disjoint, c.distance)
		}
		for _, c := range farPairs {
			checkPair(t, turnedAbout(poly(c.a), turn, most/2), turnedAbout(poly(c.b), turn, most/2), c.disjoint, c.distance)
		}
	}
}

func TestEveryPolygonOverlapsItself(t *testing.T) {
	for _, p := range goodPolygons() {
		checkPair(t, p, p, false, 0)
		if low, high, _ := impl.BoundsOf(p); high.X+high.X-low.X <= most {
			checkPair(t, p, moved(p, high.X-low.X, 0), true, gapAsTold(p, moved(p, high.X-low.X, 0)))
			if high.X-low.X > 1 {
				checkPair(t, p, moved(p, 1, 0), false, 0)
			}
		}
	}
}

// gapAsTold is the least distance of two edges of polygons of which none lies inside of the other.
func gapAsTold(a, b []impl.Point) int64 {
	least := int64(math.MaxInt64)
	for i, p := range a {
		for k, q := range b {
			least = min(least, impl.SegmentDistance(p, a[(i+1)%len(a)], q, b[(k+1)%len(b)]))
		}
	}
	return least
}

// cellScale makes the coordinates of the points within the cells of a small grid whole.
const cellScale = 840 * 3

// gridCells are points, at cellScale times the size, within all the cells into which the lines through each two points of the grid of smallPolygons divide it: the inside of a polygon on this grid consists of cells and of parts of lines.
var gridCells = sync.OnceValue(func() []impl.Point {
	lines := gridLines()
	meets := map[impl.Point]bool{}
	for _, s := range lines {
		for _, r := range lines {
			if whole := product(s[0], s[1], r[0], r[1]); whole != 0 {
				place := product(s[0], r[0], r[0], r[1])
				p := pt(s[0].X*840+(s[1].X-s[0].X)*840/whole*place, s[0].Y*840+(s[1].Y-s[0].Y)*840/whole*place)
				if 0 <= p.X && p.X <= 2*840 && 0 <= p.Y && p.Y <= 2*840 {
					meets[p] = true
				}
			}
		}
	}
	var cells []impl.Point
	seen := map[string]bool{}
	// A cell is convex and has the centres of its corners inside.
	for a := range meets {
		for b := range meets {
			for c := range meets {
				centre := pt(a.X+b.X+c.X, a.Y+b.Y+c.Y)
				if sides, within := sidesOf(lines, centre); within && !seen[sides] {
					seen[sides] = true
					cells = append(cells, centre)
				}
			}
		}
	}
	return cells
})

// gridLines are segments on all lines through at least two points of the grid.
func gridLines() [][2]impl.Point {
	var lines [][2]impl.Point
	for _, a := range grid(3) {
		for _, b := range grid(3) {
			known := func(s [2]impl.Point) bool {
				return product(s[0], s[1], s[0], a) == 0 && product(s[0], s[1], s[0], b) == 0
			}
			if a != b && !slices.ContainsFunc(lines, known) {
				lines = append(lines, [2]impl.Point{a, b})
			}
		}
	}
	return lines
}

// sidesOf tells on which side of each line a point at cellScale times the size lies, and whether it lies on none of them.
func sidesOf(lines [][2]impl.Point, q impl.Point) (string, bool) {
	sides := make([]byte, len(lines))
	for k, s := range lines {
		place := product(s[0], s[1], pt(s[0].X*cellScale, s[0].Y*cellScale), q)
		if place == 0 {
			return "", false
		}
		sides[k] = '-'
		if place > 0 {
			sides[k] = '+'
		}
	}
	return string(sides), true
}

// cellsOf has a bit for each cell inside of a polygon on the grid; there are less than 64.
func cellsOf(p []impl.Point) uint64 {
	large := slices.Clone(p)
	for k, corner := range p {
		large[k] = pt(corner.X*cellScale, corner.Y*cellScale)
	}
	var cells uint64
	for k, q := range gridCells() {
		if place, _ := impl.Inside(large, q); place == 1 {
			cells |= 1 << k
		}
	}
	return cells
}

// gridPolygon is one of smallPolygons with its cells.
type gridPolygon struct {
	points []impl.Point
	cells  uint64
}

// gridPolygons are the different ones of smallPolygons.
var gridPolygons = sync.OnceValue(func() []gridPolygon {
	var all []gridPolygon
	for _, p := range smallPolygons() {
		// Each polygon is there from all of its points on.
		if slices.IndexFunc(p, func(q impl.Point) bool { return q.X < p[0].X || q.X == p[0].X && q.Y < p[0].Y }) < 0 {
			all = append(all, gridPolygon{p, cellsOf(p)})
		}
	}
	return all
})

// forGridPairs calls check with all pairs of gridPolygons, half of them in the other order, and with whether they have no cell in common. Most pairs have one: of these, only each one of rarely is checked.
func forGridPairs(rarely int, check func(a, b gridPolygon, disjoint bool)) {
	all := gridPolygons()
	for i := range all {
		for k := range i + 1 {
			a, b := all[i], all[k]
			if (i+k)%2 == 1 {
				a, b = b, a
			}
			if disjoint := a.cells&b.cells == 0; disjoint || (i*i+k)%rarely == 0 {
				check(a, b, disjoint)
			}
		}
	}
}

func TestAllPairsOfSmallPolygons(t *testing.T) {
	apart := 0
	forGridPairs(1, func(a, b gridPolygon, disjoint bool) {
		if got := impl.Disjoint(a.points, b.points); got != disjoint {
			t.Fatalf("Disjoint(%v, %v) is %v", a.points, b.points, got)
		}
		if disjoint {
			apart++
		}
	})
	// The lines of the grid make 56 cells.
	if len(gridCells()) != 56 || apart < 5000 {
		t.Errorf("%d cells, and %d pairs that are disjoint", len(gridCells()), apart)
	}
}

func TestAllDistancesOfSmallPolygons(t *testing.T) {
	forGridPairs(20, func(a, b gridPolygon, disjoint bool) {
		var want int64
		if disjoint {
			want = gapAsTold(a.points, b.points)
		}
		if got, code := impl.PolygonDistance(a.points, b.points); got != want || code != impl.OK {
			t.Fatalf("PolygonDistance(%v, %v) is %d, %d, want %d", a.points, b.points, got, code, want)
		}
	})
}

func TestPairsRefuse(t *testing.T) {
	good := poly("5,5 9,5 9,9 5,9")
	forBadPolygons(func(reason string, p []impl.Point) {
		for _, pair := range [][2][]impl.Point{{p, good}, {good, p}, {p, p}, {p, poly("90,90 99,90 99,99")}, {poly("90,90 99,90 99,99"), p}, {p, nil}, {nil, p}} {
			if impl.Disjoint(pair[0], pair[1]) {
				t.Errorf("Disjoint(%v, %v) is true: %s", pair[0], pair[1], reason)
			}
			if got, code := impl.PolygonDistance(pair[0], pair[1]); got != 0 || code != impl.ErrInvalid {
				t.Errorf("PolygonDistance(%v, %v) is %d, %d: %s", pair[0], pair[1], got, code, reason)
			}
			if got, code := impl.JoinPolygons(pair[0], pair[1]); len(got) != 0 || code != impl.ErrInvalid {
				t.Errorf("JoinPolygons(%v, %v) is %v, %d: %s", pair[0], pair[1], got, code, reason)
			}
		}
	})
}
