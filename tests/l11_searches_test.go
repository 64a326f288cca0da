package tests

import (
	"math"
	"slices"
	"strings"
	"testing"

	"loop.example/g00956/impl"
)

const (
	domino = "5,5 25,5 25,15 5,15"
	arch   = "0,0 30,0 30,30 20,30 20,10 10,10 10,30 0,30"
	wedge  = "0,0 20,0 0,20"
)

// nest is the case of a search.
func nest(pic impl.Picture, leaves []impl.Leaf, r impl.Rules, step int64) nestCase {
	return nestCase{pic, leaves, r, step}
}

// laid returns the placements with some texts.
func laid(text string) []impl.Placement {
	list := []impl.Placement{}
	for _, word := range strings.Fields(text) {
		p, ok := impl.ReadPlacement(word)
		if !ok {
			panic(text)
		}
		list = append(list, p)
	}
	return list
}

// dominoes is a picture of n rectangles with the sides 20 and 10.
func dominoes(n int) impl.Picture { return oaken(slices.Repeat([]string{domino}, n)...) }

// withVeneers gives the first faces or leaves other veneers.
func withVeneers(pic impl.Picture, veneers ...impl.Veneer) impl.Picture {
	return repainted(pic, func(p *impl.Picture) { copy(p.Veneers, veneers) })
}

func leavesWith(list []impl.Leaf, veneers ...impl.Veneer) []impl.Leaf {
	return changedLeaves(list, func(list []impl.Leaf) {
		for k, v := range veneers {
			list[k].Veneer = v
		}
	})
}

func oakGrain(grain int64) impl.Veneer { return veneer("oak", 40, grain) }

func oakShade(shade int64) impl.Veneer { return veneer("oak", shade, 0) }

// checkGreedyCase has an empty text of placements for an empty nesting, and "none" if there is none.
func checkGreedyCase(t *testing.T, c nestCase, text string) {
	t.Helper()
	told, isFound := c.greedyAsTold()
	if text == "none" {
		c.checkGreedyNesting(t, nil, impl.ErrNotFound)
		if isFound {
			t.Errorf("%v has the nesting %v", c, told)
		}
		return
	}
	want := laid(text)
	c.checkGreedyNesting(t, want, impl.OK)
	if !slices.Equal(told, want) || !isFound {
		t.Errorf("%v has the nesting %v, not %v", c, told, want)
	}
	// What is found without going back is the first one.
	if list, code := impl.FirstNesting(c.pic, c.leaves, c.r, c.step, int64(len(want)+1)); !slices.Equal(list, want) || code != impl.OK {
		t.Errorf("FirstNesting of %v is %v, %d, want %v", c, list, code, want)
	}
}

func TestOrderOfPlaces(t *testing.T) {
	strict := rulesOf(0, 0, 0, 0)
	// X goes on first, then Y, then the turn, and then the leaf.
	checkGreedyCase(t, nest(blocks(6), oakLeaves(20, 20, 25, 19), anyWay, 10), "0,0,0,0,0 1,0,10,0,0 2,0,0,10,0 3,0,10,10,0 4,1,0,0,0 5,1,10,0,0")
	checkGreedyCase(t, nest(blocks(7), oakLeaves(20, 20, 25, 19), anyWay, 10), "none")
	checkGreedyCase(t, nest(dominoes(5), oakLeaves(30, 20, 20, 20), anyWay, 10), "0,0,0,0,0 1,0,0,10,0 2,0,20,0,1 3,1,0,0,0 4,1,0,10,0")
	checkGreedyCase(t, nest(dominoes(3), oakLeaves(10, 20, 20, 20), anyWay, 10), "0,0,0,0,1 1,1,0,0,0 2,1,0,10,0")
	// Leaves that are too small, spoiled or of another wood are left out, but a smaller face may still use them.
	checkGreedyCase(t, nest(oaken(domino, block10), oakLeaves(19, 19, 20, 15), anyWay, 5), "0,1,0,0,0 1,0,0,0,0")
	checkGreedyCase(t, nest(blocks(2), leavesWith(oakLeaves(20, 10, 20, 10), veneer("ash", 20, 0)), anyWay, 10), "0,1,0,0,0 1,1,10,0,0")
	checkGreedyCase(t, nest(blocks(2), leavesWith(oakLeaves(20, 10, 20, 10), oakShade(46)), rulesOf(0, 0, 90, 5), 10), "0,1,0,0,0 1,1,10,0,0")
	checkGreedyCase(t, nest(blocks(2), []impl.Leaf{leafOf(30, 30, box(0, 0, 10, 10), box(15, 0, 1, 10))}, anyWay, 5), "0,0,20,0,0 1,0,0,10,0")
	checkGreedyCase(t, nest(blocks(1), []impl.Leaf{leafOf(30, 30, box(15, 15, 1, 1), box(0, 0, 6, 6), box(24, 24, 6, 6), box(0, 24, 6, 6))}, anyWay, 5), "0,0,10,0,0")
	// The grain tells the turn.
	checkGreedyCase(t, nest(withVeneers(dominoes(4), oakGrain(0), oakGrain(90)), oakLeaves(40, 40), strict, 10), "0,0,0,0,0 1,0,20,0,1 2,0,0,10,0 3,0,0,20,0")
	for grain, text := range map[int64]string{30: "0,0,0,0,0", 120: "0,0,0,0,1", 150: "0,0,0,0,4", 60: "0,0,0,0,5", 0: "none", 90: "none", 31: "none"} {
		checkGreedyCase(t, nest(withVeneers(dominoes(1), oakGrain(grain)), leavesWith(oakLeaves(40, 40), oakGrain(30)), strict, 10), text)
	}
	// Triangles and a notch.
	checkGreedyCase(t, nest(oaken(wedge, wedge), oakLeaves(20, 20), anyWay, 5), "0,0,0,0,0 1,0,0,0,2")
	checkGreedyCase(t, nest(oaken(wedge, wedge), oakLeaves(20, 20), rulesOf(1, 0, 90, 100), 5), "none")
	checkGreedyCase(t, nest(oaken(arch, domino), oakLeaves(30, 30), anyWay, 10), "0,0,0,0,0 1,0,10,10,1")
	checkGreedyCase(t, nest(oaken(arch, domino), oakLeaves(30, 30), rulesOf(1, 0, 90, 100), 10), "none")
	checkGreedyCase(t, nest(oaken(arch, domino), oakLeaves(30, 30), anyWay, 6), "none")
}

func TestMarginStepAndSpacingOfPlaces(t *testing.T) {
	// The places are at the margin plus multiples of the step.
	margin := rulesOf(0, 7, 90, 100)
	checkGreedyCase(t, nest(blocks(3), oakLeaves(44, 34), margin, 10), "0,0,7,7,0 1,0,17,7,0 2,0,27,7,0")
	checkGreedyCase(t, nest(blocks(3), oakLeaves(43, 34), margin, 10), "0,0,7,7,0 1,0,17,7,0 2,0,7,17,0")
	checkGreedyCase(t, nest(blocks(3), oakLeaves(43, 33), margin, 10), "none")
	checkGreedyCase(t, nest(blocks(2), oakLeaves(44, 31), margin, 7), "0,0,7,7,0 1,0,21,7,0")
	checkGreedyCase(t, nest(blocks(1), oakLeaves(44, 31), margin, most), "0,0,7,7,0")
	checkGreedyCase(t, nest(blocks(2), oakLeaves(44, 31), margin, most), "none")
	checkGreedyCase(t, nest(blocks(1), oakLeaves(32, 32), rulesOf(0, 11, 90, 100), 10), "0,0,11,11,0")
	checkGreedyCase(t, nest(blocks(1), oakLeaves(32, 31), rulesOf(0, 11, 90, 100), 10), "none")
	checkGreedyCase(t, nest(blocks(1), oakLeaves(1010, 1010), rulesOf(0, 500, 90, 100), 1010), "0,0,500,500,0")
	checkGreedyCase(t, nest(blocks(1), oakLeaves(1009, 1010), rulesOf(0, 500, 90, 100), 1010), "none")
	checkGreedyCase(t, nest(blocks(1), []impl.Leaf{leafOf(30, 30, box(3, 3, 1, 1))}, rulesOf(0, 3, 90, 100), 4), "0,0,7,3,0")
	checkGreedyCase(t, nest(blocks(1), oakLeaves(10, 10), anyWay, 1), "0,0,0,0,0")
	checkGreedyCase(t, nest(blocks(1), []impl.Leaf{leafOf(18, 18, box(0, 0, 8, 18), box(0, 0, 18, 7))}, anyWay, 1), "0,0,8,7,0")
	// Places that touch are free without a spacing.
	checkGreedyCase(t, nest(blocks(2), oakLeaves(20, 10), anyWay, 10), "0,0,0,0,0 1,0,10,0,0")
	checkGreedyCase(t, nest(blocks(2), oakLeaves(20, 20), rulesOf(1, 0, 90, 100), 10), "none")
	checkGreedyCase(t, nest(blocks(4), oakLeaves(30, 30), rulesOf(5, 0, 90, 100), 5), "0,0,0,0,0 1,0,15,0,0 2,0,0,15,0 3,0,15,15,0")
	checkGreedyCase(t, nest(blocks(3), oakLeaves(30, 30), rulesOf(6, 0, 90, 100), 5), "0,0,0,0,0 1,0,20,0,0 2,0,0,20,0")
	checkGreedyCase(t, nest(blocks(2), oakLeaves(30, 30), rulesOf(14, 0, 90, 100), 10), "0,0,0,0,0 1,0,20,20,0")
	checkGreedyCase(t, nest(blocks(2), oakLeaves(30, 30), rulesOf(15, 0, 90, 100), 10), "none")
	checkGreedyCase(t, nest(blocks(2), oakLeaves(10, 10, 10, 10), rulesOf(500, 0, 90, 100), 10), "0,0,0,0,0 1,1,0,0,0")
	// No faces, and no leaves.
	checkGreedyCase(t, nest(blocks(0), nil, anyWay, 10), "")
	checkGreedyCase(t, nest(blocks(0), oakLeaves(20, 20), anyWay, 10), "")
	checkGreedyCase(t, nest(blocks(1), nil, anyWay, 10), "none")
	checkGreedyCase(t, nest(blocks(24), nil, anyWay, most), "none")
}

// TestFullNestings has as many faces, leaves and places as there may be.
func TestFullNestings(t *testing.T) {
	var rows, alone []impl.Placement
	sizes := []int64{}
	for face := range int64(24) {
		rows = append(rows, put(face, 0, face%19*10, face/19*10, 0))
		alone = append(alone, put(face, face/2, 0, face%2*10, 0))
		sizes = append(sizes, 10, 20)
	}
	for _, c := range []struct {
		c    nestCase
		want []impl.Placement
	}{
		{nest(blocks(24), oakLeaves(190, 190), anyWay, 10), rows}, {nest(blocks(24), oakLeaves(sizes[:32]...), anyWay, 10), alone}, {nest(painted(crowd(1), "oak 40 0"), oakLeaves(most, most), anyWay, most), laid("0,0,0,0,0")}, {nest(oaken("0,0 19000,0 19000,19000 0,19000"), oakLeaves(most, most), rulesOf(500, 500, 90, 100), 1053), laid("0,0,500,500,0")}, {nest(oaken("5,5 15,5 15,15 5,15", "0,0 10,0 10,10 0,10"), oakLeaves(most, most), rulesOf(500, 500, 90, 100), most/19), laid("0,0,500,500,0 1,0,1552,500,0")},
	} {
		c.c.checkGreedyNesting(t, c.want, impl.OK)
		c.c.checkFirstNesting(t, nestEnd{c.want, int64(len(c.want) + 1), true})
	}
	crowded := nest(painted(crowd(2), "oak 40 0"), oakLeaves(most, most), anyWay, most)
	crowded.checkGreedyNesting(t, nil, impl.ErrNotFound)
	crowded.checkFirstNesting(t, nestEnd{nil, 1 + 8, false})
	crowded = nest(painted(crowd(16), "oak 40 0"), oakLeaves(slices.Repeat([]int64{most}, 32)...), rulesOf(500, 0, 90, 100), most)
	want := onLeaves(0, 1, 2, 3, 4, 5, 6, 7, 8, 9, 10, 11, 12, 13, 14, 15)
	crowded.checkGreedyNesting(t, want, impl.OK)
	crowded.checkFirstNesting(t, nestEnd{want, 17, true})
}

// nestNodes is a search whose nodes are counted by hand; want is "none" if there is no nesting.
type nestNodes struct {
	c     nestCase
	want  string
	nodes int64
}

func TestNodesOfFirstNesting(t *testing.T) {
	strict, five := rulesOf(0, 0, 0, 0), rulesOf(0, 0, 0, 5)
	spoiled := []impl.Leaf{leafOf(30, 10, box(15, 0, 5, 10))}
	for _, c := range []nestNodes{
		// The empty list is a node, also without faces and without places.
		{nest(blocks(0), nil, anyWay, 10), "", 1}, {nest(blocks(0), oakLeaves(20, 20), anyWay, 10), "", 1}, {nest(blocks(1), nil, anyWay, 10), "none", 1}, {nest(blocks(3), nil, anyWay, 10), "none", 1}, {nest(dominoes(2), oakLeaves(19, 19), anyWay, 10), "none", 1},
		// Straight on: a node for each face.
		{nest(blocks(1), oakLeaves(10, 10), anyWay, 10), "0,0,0,0,0", 1 + 1}, {nest(blocks(2), oakLeaves(10, 10, 10, 10), anyWay, 10), "0,0,0,0,0 1,1,0,0,0", 1 + 2}, {nest(blocks(2), oakLeaves(20, 10), anyWay, 10), "0,0,0,0,0 1,0,10,0,0", 1 + 2},
		// Squares on leaves of their size: as many places as turns, all of which are alike.
		{nest(blocks(2), oakLeaves(10, 10), anyWay, 10), "none", 1 + 8}, {nest(blocks(2), oakLeaves(10, 10), strict, 10), "none", 1 + 4}, {nest(blocks(3), oakLeaves(10, 10, 10, 10), strict, 10), "none", 1 + 8 + 8*4}, {nest(blocks(3), oakLeaves(10, 10, 10, 10), anyWay, 10), "none", 1 + 16 + 16*8},
		{nest(blocks(4), oakLeaves(10, 10, 10, 10, 10, 10), anyWay, 10), "none", 1 + 24 + 24*16 + 24*16*8}, {nest(blocks(5), oakLeaves(10, 10, 10, 10, 10, 10, 10, 10), strict, 10), "none", 1 + 16 + 16*12 + 16*12*8 + 16*12*8*4},
		// The second face has no place at all: each place of the first one is a node.
		{nest(oaken(block10, arch), oakLeaves(20, 20), strict, 5), "none", 1 + 4*9}, {nest(oaken(arch, block10), oakLeaves(20, 20), strict, 5), "none", 1},
		// The first face goes from the leaf that the second one needs to the other leaf.
		{nest(withVeneers(blocks(2), oakShade(45), oakShade(40)), leavesWith(oakLeaves(10, 10, 10, 10), oakShade(40), oakShade(50)), five, 10), "0,1,0,0,0 1,0,0,0,0", 1 + 4 + 1 + 1}, {nest(withVeneers(blocks(2), oakShade(45), oakShade(40)), leavesWith(oakLeaves(10, 10, 10, 10), oakShade(40), oakShade(50)), rulesOf(0, 0, 90, 5), 10), "0,1,0,0,0 1,0,0,0,0", 1 + 8 + 1 + 1},
		// Over two faces: only the first one is in the way of the third one.
		{nest(withVeneers(blocks(3), oakShade(45), oakShade(50), oakShade(40)), leavesWith(oakLeaves(10, 10, 10, 10, 10, 10), oakShade(40), oakShade(50), oakShade(50)), five, 10), "0,1,0,0,0 1,2,0,0,0 2,0,0,0,0", 1 + 4*(1+8) + 1 + 1 + 1},
		// To another place on the leaf: 0 and 5 leave no room, 20 does; the same with a spacing of the width of the defect.
		{nest(oaken(block10, "0,0 15,0 15,10 0,10"), spoiled, strict, 5), "0,0,20,0,0 1,0,0,0,0", 1 + 2 + 1 + 1}, {nest(oaken(block10, "0,0 15,0 15,10 0,10"), spoiled, rulesOf(5, 0, 0, 0), 5), "0,0,20,0,0 1,0,0,0,0", 1 + 2 + 1 + 1}, {nest(oaken(block10, "0,0 15,0 15,10 0,10"), spoiled, rulesOf(6, 0, 0, 0), 5), "none", 1 + 3*4},
		// To another turn: the domino lies first, and stands only after all places at which it lies.
		{nest(oaken(domino, "0,0 10,0 10,20 0,20"), oakLeaves(20, 20), rulesOf(0, 0, 90, 0), 10), "0,0,0,0,0 1,0,0,10,1", 1 + 2}, {nest(withVeneers(oaken(domino, "0,0 10,0 10,20 0,20"), oakGrain(45)), leavesWith(oakLeaves(20, 20), oakGrain(0)), rulesOf(0, 0, 45, 0), 10), "0,0,0,0,1 1,0,10,0,0", 1 + 2 + 1 + 1},
	} {
		end := nestEnd{nil, c.nodes, false}
		if c.want != "none" {
			end = nestEnd{laid(c.want), c.nodes, true}
		}
		c.c.checkFirstNesting(t, end)
		if told := c.c.firstAsTold(); told.nodes != end.nodes || told.isFound != end.isFound || !slices.Equal(told.list, end.list) {
			t.Errorf("%v ends with %v, not with %v", c.c, told, end)
		}
	}
}

// TestFirstFindsMore has searches that find a nesting which the greedy one does not.
func TestFirstFindsMore(t *testing.T) {
	for _, c := range []nestCase{
		nest(withVeneers(blocks(2), oakShade(45), oakShade(40)), leavesWith(oakLeaves(10, 10, 10, 10), oakShade(40), oakShade(50)), rulesOf(0, 0, 90, 5), 10),
		nest(oaken(block10, "0,0 15,0 15,10 0,10"), []impl.Leaf{leafOf(30, 10, box(15, 0, 5, 10))}, anyWay, 5),
	} {
		c.checkGreedyNesting(t, nil, impl.ErrNotFound)
		end := c.firstAsTold()
		if !end.isFound {
			t.Errorf("%v has no nesting", c)
		}
		c.checkFirstNesting(t, end)
	}
}

// TestMoreNodesThanAnyBudget ends at the budget.
func TestMoreNodesThanAnyBudget(t *testing.T) {
	for _, c := range []nestCase{
		nest(blocks(5), oakLeaves(slices.Repeat([]int64{10}, 8)...), anyWay, 10), nest(blocks(17), oakLeaves(slices.Repeat([]int64{10}, 32)...), rulesOf(0, 0, 0, 0), 10), nest(oaken(block10, block10, block10, arch), oakLeaves(40, 20), anyWay, 2), nest(oaken(slices.Concat(slices.Repeat([]string{block10}, 23), []string{arch})...), oakLeaves(190, 20), anyWay, 10),
	} {
		c.checkFirstNesting(t, nestEnd{nil, impl.MaxBudget + 1, false})
	}
}

func TestSearchesAreAsToldForNestings(t *testing.T) {
	ends := map[string]int{}
	for seed := range 700 {
		c := smallNest(seed)
		end := c.firstAsTold()
		c.checkFirstNesting(t, end)
		list, isFound := c.greedyAsTold()
		if isFound {
			c.checkGreedyNesting(t, list, impl.OK)
			if !slices.Equal(list, end.list) || end.nodes != int64(len(list)+1) {
				t.Errorf("%v is found without going back, and %v in %d nodes", list, end.list, end.nodes)
			}
		} else {
			c.checkGreedyNesting(t, nil, impl.ErrNotFound)
		}
		switch {
		case isFound && len(list) > 1:
			ends["greedy"]++
		case end.isFound && !isFound:
			ends["only with going back"]++
		case !end.isFound && end.nodes > 10:
			ends["none after a while"]++
		}
	}
	if ends["greedy"] < 50 || ends["only with going back"] < 15 || ends["none after a while"] < 50 {
		t.Errorf("the ends are %v", ends)
	}
}

func (c nestCase) checkCodes(t *testing.T, budget, want, wantFirst int64) {
	t.Helper()
	if list, code := impl.GreedyNesting(c.pic, c.leaves, c.r, c.step); code != want || want != impl.OK && len(list) != 0 {
		t.Errorf("GreedyNesting of %v is %v, %d, want the code %d", c, list, code, want)
	}
	if list, code := impl.FirstNesting(c.pic, c.leaves, c.r, c.step, budget); code != wantFirst || wantFirst != impl.OK && len(list) != 0 {
		t.Errorf("FirstNesting of %v with the budget %d is %v, %d, want the code %d", c, budget, list, code, wantFirst)
	}
}

// TestStepsOfNestings has ErrRange before ErrFull, and this before ErrNotFound.
func TestStepsOfNestings(t *testing.T) {
	small, wide, ashen := oakLeaves(10, 10), oakLeaves(10, 10, most, most), painted(blocks(1).Drawing, "ash 20 0")
	for _, step := range []int64{0, -1, most + 1, most + 2, -most, math.MinInt64, math.MaxInt64, 1 << 32, 1<<32 + 10} {
		for _, leaves := range [][]impl.Leaf{small, wide, nil} {
			for _, pic := range []impl.Picture{blocks(0), blocks(1), ashen} {
				nest(pic, leaves, anyWay, step).checkCodes(t, 5, impl.ErrRange, impl.ErrRange)
				nest(pic, leaves, anyWay, step).checkCodes(t, 0, impl.ErrRange, impl.ErrRange)
			}
		}
	}
	for _, step := range []int64{1, 2, 10, most - 1, most} {
		nest(blocks(1), small, anyWay, step).checkCodes(t, 2, impl.OK, impl.OK)
		nest(ashen, small, anyWay, step).checkCodes(t, 1, impl.ErrNotFound, impl.ErrNotFound)
		nest(ashen, nil, anyWay, step).checkCodes(t, 1, impl.ErrNotFound, impl.ErrNotFound)
		for _, budget := range []int64{0, -1, impl.MaxBudget + 1, math.MinInt64, math.MaxInt64} {
			nest(blocks(1), small, anyWay, step).checkCodes(t, budget, impl.OK, impl.ErrRange)
			nest(blocks(0), nil, anyWay, step).checkCodes(t, budget, impl.OK, impl.ErrRange)
		}
	}
	// A leaf with too many places counts although no face needs it, and although none fits it.
	for _, step := range []int64{1, 10, 1000} {
		for _, pic := range []impl.Picture{blocks(0), blocks(1), ashen} {
			nest(pic, wide, anyWay, step).checkCodes(t, impl.MaxBudget, impl.ErrFull, impl.ErrFull)
			nest(pic, wide[1:], rulesOf(0, 500, 0, 0), step).checkCodes(t, 1, impl.ErrFull, impl.ErrFull)
			nest(pic, wide, anyWay, step).checkCodes(t, 0, impl.ErrFull, impl.ErrRange)
			nest(pic, wide, anyWay, step).checkCodes(t, impl.MaxBudget+1, impl.ErrFull, impl.ErrRange)
		}
	}
	nest(blocks(1), wide, anyWay, 1001).checkCodes(t, 2, impl.OK, impl.OK)
	nest(blocks(1), wide, anyWay, 1001).checkCodes(t, 1, impl.OK, impl.ErrFull)
}

// TestGrids has leaves with just as many places as allowed, and with more.
func TestGrids(t *testing.T) {
	for _, c := range []struct {
		width, length, step int64
		isTooMuch           bool
	}{
		{190, 190, 10, false}, {199, 199, 10, false}, {200, 190, 10, true}, {190, 200, 10, true}, {200, 199, 10, true}, {199, 200, 10, true}, {19, 19, 1, false}, {20, 19, 1, true}, {19, 20, 1, true}, {10, 10, 1, false}, {1990, 10, 10, false}, {1999, 19, 10, false}, {2000, 10, 10, true}, {10, 1990, 10, false}, {10, 2000, 10, true},
		{10, 399 * 11, 11, false}, {399 * 11, 10, 11, false}, {10, 399*11 + 10, 11, false}, {10, 400 * 11, 11, true}, {400 * 11, 10, 11, true}, {most, most, 1001, false}, {most, most, 1000, true}, {most, 10, 51, false}, {most, 10, 50, true}, {10, most, 50, true}, {most, most, most, false}, {39, 100, 10, false}, {390, 99, 10, false}, {390, 100, 10, true}, {99, 390, 10, false},
	} {
		leaves, want := oakLeaves(10, 10, c.width, c.length), int64(impl.OK)
		if c.isTooMuch {
			want = impl.ErrFull
		}
		nest(blocks(1), leaves, anyWay, c.step).checkCodes(t, 2, want, want)
		nest(blocks(0), leaves[1:], rulesOf(500, 500, 0, 0), c.step).checkCodes(t, 1, want, want)
		nest(blocks(1), leavesWith(leaves, oakShade(40), veneer("ash", 20, 0)), anyWay, c.step).checkCodes(t, impl.MaxBudget, want, want)
	}
}

func TestSearchesOfInvalidArguments(t *testing.T) {
	good := nest(blocks(2), oakLeaves(20, 10), anyWay, 10)
	good.checkCodes(t, 3, impl.OK, impl.OK)
	check := func(reason string, c nestCase) {
		t.Helper()
		for _, c.step = range []int64{10, 1, 0} {
			for _, budget := range []int64{3, 1, 0, impl.MaxBudget + 1} {
				if list, code := impl.GreedyNesting(c.pic, c.leaves, c.r, c.step); len(list) != 0 || code != impl.ErrInvalid {
					t.Errorf("%s: GreedyNesting is %v, %d", reason, list, code)
				}
				if list, code := impl.FirstNesting(c.pic, c.leaves, c.r, c.step, budget); len(list) != 0 || code != impl.ErrInvalid {
					t.Errorf("%s: FirstNesting is %v, %d", reason, list, code)
				}
			}
		}
	}
	forBadPictures(func(reason string, bad impl.Picture) {
		c := good
		c.pic = bad
		check(reason, c)
	})
	forBadLists(func(reason string, bad []impl.Leaf) {
		c := good
		c.leaves = bad
		check(reason, c)
	})
	for _, bad := range badRules() {
		c := good
		c.r = bad
		check("rules", c)
		c.pic, c.leaves = blocks(0), nil
		check("rules", c)
	}
}
