package tests

import (
	"fmt"
	"math"
	"slices"
	"testing"

	"loop.example/g00956/impl"
)

func put(face, leaf, x, y, turn int64) impl.Placement {
	return impl.Placement{Face: face, Leaf: leaf, X: x, Y: y, Turn: turn}
}

func rulesOf(spacing, margin, angle, shade int64) impl.Rules {
	return impl.Rules{Spacing: spacing, Margin: margin, Angle: angle, Shade: shade}
}

// anyWay are the rules that forbid least.
var anyWay = rulesOf(0, 0, 90, 100)

// painted gives the faces of a drawing the veneers with some texts; the last one is for all further faces.
func painted(d impl.Drawing, veneers ...string) impl.Picture {
	p := impl.Picture{Drawing: d}
	for k := range d.Faces {
		v, ok := impl.ReadVeneer(veneers[min(k, len(veneers)-1)])
		if !ok {
			panic(veneers)
		}
		p.Veneers = append(p.Veneers, v)
	}
	return p
}

// oaken is a picture of oak with the polygons of some texts.
func oaken(polygons ...string) impl.Picture {
	var list [][]impl.Point
	for _, text := range polygons {
		list = append(list, poly(text))
	}
	return painted(drawingOf(list...), "oak 40 0")
}

// block10 is a square at another place in its panel than 0, 0.
const block10 = "7,3 17,3 17,13 7,13"

// blocks is a picture of n squares with the side 10.
func blocks(n int) impl.Picture { return oaken(slices.Repeat([]string{block10}, n)...) }

// oakLeaves are leaves with these widths and lengths in turn.
func oakLeaves(sizes ...int64) []impl.Leaf {
	var list []impl.Leaf
	for k := 0; k < len(sizes); k += 2 {
		l := leafOf(sizes[k], sizes[k+1])
		l.Id = letter(k / 2)
		list = append(list, l)
	}
	return list
}

// badPlacements are not valid for one reason each.
func badPlacements() []impl.Placement {
	good := put(1, 2, 30, 40, 5)
	var all []impl.Placement
	for place, limit := range []int64{23, 15, most, most, 7} {
		for _, far := range []int64{-1, limit + 1, limit + 2, -limit, -most, most + 1, 1 << 32, 1<<32 + 1, math.MinInt64, math.MinInt64 + 1, math.MaxInt64 - 1, math.MaxInt64} {
			p := good
			*numbersOfPlacement(&p)[place] = far
			all = append(all, p)
		}
	}
	return append(all, put(-1, -1, -1, -1, -1), put(24, 16, most+1, most+1, 8))
}

func numbersOfPlacement(p *impl.Placement) []*int64 {
	return []*int64{&p.Face, &p.Leaf, &p.X, &p.Y, &p.Turn}
}

func numbersOfRules(r *impl.Rules) []*int64 {
	return []*int64{&r.Spacing, &r.Margin, &r.Angle, &r.Shade}
}

// badRules are not valid for one reason each.
func badRules() []impl.Rules {
	var all []impl.Rules
	for place, limit := range []int64{500, 500, 90, 100} {
		for _, far := range []int64{-1, limit + 1, limit + 2, -limit, 1000, 1 << 32, 1<<32 + 5, math.MinInt64, math.MinInt64 + 1, math.MaxInt64 - 1, math.MaxInt64} {
			r := rulesOf(5, 10, 20, 30)
			*numbersOfRules(&r)[place] = far
			all = append(all, r)
		}
	}
	return append(all, rulesOf(-1, -1, -1, -1), rulesOf(501, 501, 91, 101))
}

// forBadPlacements calls check with lists of placements that are not valid for one reason each.
func forBadPlacements(check func(reason string, list []impl.Placement)) {
	good := []impl.Placement{put(0, 0, 0, 0, 0), put(1, 1, 50, 0, 4), put(4, 0, 0, 50, 7)}
	with := func(reason string, faces ...int64) {
		list := make([]impl.Placement, len(faces))
		for k, face := range faces {
			list[k].Face = face
		}
		check(reason, list)
	}
	for _, faces := range [][]int64{{0, 0}, {5, 5}, {0, 1, 1}, {0, 0, 1}, {23, 23}, {0, 1, 0}} {
		with("equal Faces", faces...)
	}
	for _, faces := range [][]int64{{1, 0}, {23, 0}, {0, 2, 1}, {2, 0, 1}, {1, 0, 2}, {0, 1, 2, 3, 5, 4}} {
		with("descending Faces", faces...)
	}
	for place := range good {
		for _, p := range badPlacements() {
			list := slices.Clone(good)
			list[place] = p
			check(fmt.Sprint("a placement that is not valid at ", place), list)
		}
	}
	var faces []int64
	for face := range int64(25) {
		faces = append(faces, face)
	}
	with("one placement too many", faces...)
	with("very many placements", make([]int64, 100000)...)
	check("one placement that is not valid", []impl.Placement{put(0, 0, 0, 0, 8)})
}

// leastOf returns the least coordinates of some points.
func leastOf(p []impl.Point) (x, y int64) {
	x, y = p[0].X, p[0].Y
	for _, corner := range p {
		x, y = min(x, corner.X), min(y, corner.Y)
	}
	return x, y
}

// placedAsTold may lie beyond the coordinates that are valid.
func placedAsTold(pic impl.Picture, p impl.Placement) []impl.Point {
	return moved(turnedPolygonAsTold(polygonOf(pic.Drawing, int(p.Face)), p.Turn), p.X, p.Y)
}

func areAllWithin(p []impl.Point, limit int64) bool {
	return !slices.ContainsFunc(p, func(c impl.Point) bool { return c.X < 0 || c.X > limit || c.Y < 0 || c.Y > limit })
}

// nearAsTold asks the functions of chapter 4, after moving both polygons to where they are valid.
func nearAsTold(a, b []impl.Point, spacing int64) bool {
	x, y := leastOf(slices.Concat(a, b))
	a, b = moved(a, -x, -y), moved(b, -x, -y)
	distance, code := impl.PolygonDistance(a, b)
	if code != impl.OK {
		panic(fmt.Sprint("too far apart: ", a, b))
	}
	return !impl.Disjoint(a, b) || distance < spacing
}

func veneerFaultAsTold(v impl.Veneer, l impl.Leaf, turn int64, r impl.Rules) int64 {
	grain := l.Veneer.Grain
	if turn >= 4 {
		grain = (180 - grain) % 180
	}
	if turn%2 == 1 {
		grain = (grain + 90) % 180
	}
	if v.Species != l.Veneer.Species {
		return 2
	}
	if v.Shade-l.Veneer.Shade > r.Shade || l.Veneer.Shade-v.Shade > r.Shade {
		return 3
	}
	if angleAsTold(grain, v.Grain) > r.Angle {
		return 4
	}
	return 0
}

func rectangle(d impl.Box) []impl.Point {
	return []impl.Point{pt(d.X, d.Y), pt(d.X+d.Width, d.Y), pt(d.X+d.Width, d.Y+d.Length), pt(d.X, d.Y+d.Length)}
}

func leafFaultAsTold(p []impl.Point, l impl.Leaf, r impl.Rules) int64 {
	for _, corner := range p {
		if corner.X < r.Margin || corner.X > l.Width-r.Margin || corner.Y < r.Margin || corner.Y > l.Length-r.Margin {
			return 5
		}
	}
	for _, d := range l.Defects {
		if !impl.Disjoint(rectangle(d), p) {
			return 6
		}
	}
	return 0
}

// faultsAsTold is for valid arguments whose placements have faces of the picture.
func faultsAsTold(pic impl.Picture, leaves []impl.Leaf, list []impl.Placement, r impl.Rules) []impl.NestFault {
	var faults []impl.NestFault
	add := func(kind int64, face int, other int64) {
		if kind != 0 {
			faults = append(faults, impl.NestFault{Kind: kind, Face: int64(face), Other: other})
		}
	}
	for face := range pic.Veneers {
		isPlaced := false
		for n, p := range list {
			if p.Face != int64(face) {
				continue
			}
			isPlaced = true
			polygon := placedAsTold(pic, p)
			if p.Leaf >= int64(len(leaves)) {
				add(1, face, p.Leaf)
			} else {
				add(veneerFaultAsTold(pic.Veneers[face], leaves[p.Leaf], p.Turn, r), face, p.Leaf)
				add(leafFaultAsTold(polygon, leaves[p.Leaf], r), face, p.Leaf)
			}
			for _, q := range list[:n] {
				if q.Leaf == p.Leaf && nearAsTold(placedAsTold(pic, q), polygon, r.Spacing) {
					add(7, face, q.Face)
				}
			}
		}
		if !isPlaced {
			add(8, face, 0)
		}
	}
	return faults
}

// checkFaults compares the faults with the wanted ones, and IsNesting with whether there are any.
func checkFaults(t *testing.T, pic impl.Picture, leaves []impl.Leaf, list []impl.Placement, r impl.Rules, want ...impl.NestFault) {
	t.Helper()
	faults, code := impl.NestFaults(pic, leaves, list, r)
	if !slices.Equal(faults, want) || code != impl.OK {
		t.Errorf("NestFaults(%v, %v, %v, %v) is %v, %d, want %v", pic, leaves, list, r, faults, code, want)
	}
	if got := impl.IsNesting(pic, leaves, list, r); got != (len(want) == 0) {
		t.Errorf("IsNesting(%v, %v, %v, %v) is %v, with the faults %v", pic, leaves, list, r, got, want)
	}
}

// nestCase has the arguments of a search for a nesting.
type nestCase struct {
	pic    impl.Picture
	leaves []impl.Leaf
	r      impl.Rules
	step   int64
}

// nestEnd is the end of a search that has no budget.
type nestEnd struct {
	list    []impl.Placement
	nodes   int64
	isFound bool
}

// placesAsTold tries all points of all leaves.
func (c nestCase) placesAsTold(face int) []impl.Placement {
	var places []impl.Placement
	for leaf, l := range c.leaves {
		for turn := range int64(8) {
			for y := range l.Length + 1 {
				for x := range l.Width + 1 {
					p := put(int64(face), int64(leaf), x, y, turn)
					if x < c.r.Margin || y < c.r.Margin || (x-c.r.Margin)%c.step != 0 || (y-c.r.Margin)%c.step != 0 {
						continue
					}
					if veneerFaultAsTold(c.pic.Veneers[face], l, turn, c.r) == 0 && leafFaultAsTold(placedAsTold(c.pic, p), l, c.r) == 0 {
						places = append(places, p)
					}
				}
			}
		}
	}
	return places
}

// freedom returns a function that tells whether a place is free for a list.
func (c nestCase) freedom() func(p impl.Placement, list []impl.Placement) bool {
	known := map[[2]impl.Placement]bool{}
	return func(p impl.Placement, list []impl.Placement) bool {
		for _, q := range list {
			if p.Leaf != q.Leaf {
				continue
			}
			pair := [2]impl.Placement{p, q}
			if _, ok := known[pair]; !ok {
				known[pair] = nearAsTold(placedAsTold(c.pic, p), placedAsTold(c.pic, q), c.r.Spacing)
			}
			if known[pair] {
				return false
			}
		}
		return true
	}
}

func (c nestCase) greedyAsTold() ([]impl.Placement, bool) {
	var list []impl.Placement
	isFree := c.freedom()
	for face := range c.pic.Veneers {
		places := c.placesAsTold(face)
		k := slices.IndexFunc(places, func(p impl.Placement) bool { return isFree(p, list) })
		if k < 0 {
			return nil, false
		}
		list = append(list, places[k])
	}
	return list, true
}

// firstAsTold ends behind the greatest budget.
func (c nestCase) firstAsTold() nestEnd {
	var end nestEnd
	var places [][]impl.Placement
	for face := range c.pic.Veneers {
		places = append(places, c.placesAsTold(face))
	}
	isFree := c.freedom()
	var goOn func(list []impl.Placement)
	goOn = func(list []impl.Placement) {
		end.nodes++
		if len(list) == len(places) {
			end.list, end.isFound = slices.Clone(list), true
			return
		}
		for _, p := range places[len(list)] {
			if end.isFound || end.nodes > impl.MaxBudget {
				return
			}
			if isFree(p, list) {
				goOn(append(list, p))
			}
		}
	}
	goOn(nil)
	return end
}

// atBudget is what a search with a budget returns.
func (e nestEnd) atBudget(budget int64) ([]impl.Placement, int64) {
	switch {
	case budget < 1 || budget > 20000:
		return nil, impl.ErrRange
	case e.nodes > budget:
		return nil, impl.ErrFull
	case !e.isFound:
		return nil, impl.ErrNotFound
	}
	return e.list, impl.OK
}

// checkFirstNesting calls with all budgets at which the end of the search changes.
func (c nestCase) checkFirstNesting(t *testing.T, end nestEnd) {
	t.Helper()
	for _, budget := range []int64{end.nodes - 1, end.nodes, end.nodes + 1, 1, 2, 0, -1, impl.MaxBudget, impl.MaxBudget + 1, math.MinInt64, math.MaxInt64} {
		list, code := impl.FirstNesting(c.pic, c.leaves, c.r, c.step, budget)
		if want, wantCode := end.atBudget(budget); !slices.Equal(list, want) || code != wantCode {
			t.Fatalf("FirstNesting of %v with the budget %d is %v, %d, want %v, %d", c, budget, list, code, want, wantCode)
		}
	}
	if end.isFound {
		c.checkPromise12(t, end.list)
	}
}

func (c nestCase) checkGreedyNesting(t *testing.T, want []impl.Placement, wantCode int64) {
	t.Helper()
	list, code := impl.GreedyNesting(c.pic, c.leaves, c.r, c.step)
	if !slices.Equal(list, want) || code != wantCode {
		t.Fatalf("GreedyNesting of %v is %v, %d, want %v, %d", c, list, code, want, wantCode)
	}
	if code == impl.OK {
		c.checkPromise12(t, list)
	}
}

// checkPromise12 takes one face after the other out of a nesting.
func (c nestCase) checkPromise12(t *testing.T, list []impl.Placement) {
	t.Helper()
	checkFaults(t, c.pic, c.leaves, list, c.r)
	if len(list) != len(c.pic.Veneers) || !impl.ValidPlacements(list) {
		t.Errorf("the nesting %v of %v has not one place for each face", list, c)
	}
	for k := range list {
		without := slices.Delete(slices.Clone(list), k, k+1)
		checkFaults(t, c.pic, c.leaves, without, c.r, impl.NestFault{Kind: impl.NfMissing, Face: int64(k)})
	}
}

// smallNest is one of which all points of all leaves can be tried.
func smallNest(seed int) nestCase {
	next := dice(seed)
	all := gridPolygons()
	var polygons [][]impl.Point
	for range 1 + next(4) {
		scale, p := 3+next(4), slices.Clone(all[next(int64(len(all)))].points)
		for k, corner := range p {
			p[k] = pt(corner.X*scale, corner.Y*scale)
		}
		polygons = append(polygons, moved(p, next(9), next(9)))
	}
	c := nestCase{pic: painted(drawingOf(polygons...), "oak 40 0"), step: 3 + next(6)}
	for k := range c.pic.Veneers {
		c.pic.Veneers[k] = veneer("oak", 38+next(5), []int64{0, 0, 90, 45, 130}[next(5)])
	}
	for k := range 1 + next(3) {
		l := leafOf(10+next(16), 10+next(16))
		l.Id, l.Veneer = letter(int(k)), veneer("oak", 35+next(2)*5, []int64{0, 0, 45, 100}[next(4)])
		if next(4) == 0 {
			l.Veneer = veneer("ash", 35, 0)
		}
		for range next(3) {
			x, y := next(l.Width), next(l.Length)
			l.Defects = append(l.Defects, box(x, y, 1+next(min(4, l.Width-x)), 1+next(min(4, l.Length-y))))
		}
		c.leaves = append(c.leaves, l)
	}
	c.r = rulesOf(next(2)*next(4), next(3), []int64{0, 45, 50, 90}[next(4)], []int64{1, 3, 5, 100}[next(4)])
	return c
}
