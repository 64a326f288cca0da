package tests

import (
	"slices"
	"testing"

	"loop.example/g00956/impl"
)

const (
	twoFaces  = "20x10;0,0 20,0 20,10 0,10;a 0,1,2;b 0,2,3"
	twoApart  = "20x20;0,0 10,0 10,10 0,10 20,10 20,20 10,20;a 0,1,2,3;b 2,4,5,6"
	threeEach = "20x10;0,0 20,0 20,10 0,10;a 0,1,2;b 1,2,0;c 2,3,0"
	chain     = "40x10;0,0 10,0 20,0 30,0 40,0 40,10 30,10 20,10 10,10 0,10;a 0,1,8,9;b 1,2,7,8;c 2,3,6,7;d 3,4,5,6"
	groups    = "40x10;0,0 10,0 20,0 30,0 40,0 40,10 30,10 20,10 10,10 0,10;a 0,1,8,9;b 3,4,5,6;c 1,2,8;d 3,5,6"
	mixed     = "40x10;0,0 10,0 20,0 30,0 40,0 40,10 30,10 20,10 10,10 0,10;a 0,1,8,9;b 3,4,5,6;c 1,2,7,8;d 2,3,6,7"
	oneFace   = "10x10;0,0 10,0 0,10;a 0,1,2"
	noFaces   = "10x10;"
)

// nodes is a search whose nodes are counted by hand.
type nodes struct {
	text   string
	shades []int64
	limit  int64
	want   found
}

func TestNodesOfFirstColoring(t *testing.T) {
	for _, c := range []nodes{
		// Without going back: a node for each face. What is refused because of a neighbour before it is none.
		{twoFaces, []int64{40, 20}, 0, found{[]int64{0, 0}, 0, 2, true}}, {twoFaces, []int64{40, 20}, 1, found{[]int64{0, 1}, 0, 2, true}}, {twoFaces, []int64{40, 20}, 20, found{[]int64{0, 1}, 0, 2, true}}, {twoFaces, []int64{40, 40, 40, 41, 20}, 20, found{[]int64{0, 4}, 0, 2, true}},
		{oneFace, []int64{40, 20}, 115, found{[]int64{0}, 0, 1, true}}, {twoApart, []int64{40, 20}, 115, found{[]int64{0, 0}, 0, 2, true}}, {chain, []int64{40, 20}, 20, found{[]int64{0, 1, 0, 1}, 0, 4, true}}, {chain, []int64{40, 20, 60}, 40, found{[]int64{1, 2, 1, 2}, 0, 5, true}},
		{threeEach, []int64{0, 20, 40}, 20, found{[]int64{0, 1, 2}, 0, 3, true}}, {noFaces, []int64{40}, 0, found{nil, 0, 0, true}}, {noFaces, []int64{40, 20}, 115, found{nil, 0, 0, true}},
		// Without a coloring: each veneer of the first face, and what can follow it.
		{twoFaces, []int64{40, 20}, 21, found{nil, 0, 2, false}}, {twoFaces, []int64{40}, 1, found{nil, 0, 1, false}}, {twoFaces, []int64{40, 40, 40}, 1, found{nil, 0, 3, false}}, {threeEach, []int64{40, 20}, 20, found{nil, 0, 4, false}}, {threeEach, []int64{0, 20, 40}, 21, found{nil, 0, 5, false}},
		{chain, []int64{40}, 1, found{nil, 0, 1, false}}, {chain, []int64{40, 41, 42}, 3, found{nil, 0, 3, false}},
		// With going back: 20, 80 leads no further, but 40, 0, 80 does.
		{threeEach, []int64{20, 40, 0, 80}, 30, found{[]int64{1, 2, 3}, 0, 5, true}}, {twoFaces, []int64{40, 20, 60}, 40, found{[]int64{1, 2}, 0, 3, true}}, {twoFaces, []int64{40, 50, 60, 30, 20}, 40, found{[]int64{2, 4}, 0, 4, true}},
		// Groups of faces that are not beside one another in their order: 40 at the first face is given up late, at the second one later.
		{groups, []int64{40, 20, 60}, 40, found{[]int64{1, 1, 2, 2}, 0, (1 + 3) + 1 + 2 + 3, true}}, {groups, []int64{40, 20}, 21, found{nil, 0, 2 + 4, false}}, {groups, []int64{40, 20, 0}, 41, found{nil, 0, 3 + 9, false}},
		{mixed, []int64{0, 20, 40}, 20, found{[]int64{0, 0, 1, 2}, 0, 4, true}}, {mixed, []int64{0, 20}, 20, found{[]int64{0, 1, 1, 0}, 0, 3 + 3, true}},
	} {
		d, palette := draw(c.text), grainless(c.shades...)
		checkFirst(t, d, palette, c.limit, c.want)
		if by := firstAsTold(d, palette, c.limit, allAsTold); by.nodes != c.want.nodes {
			t.Errorf("%s %v %d has %d nodes, want %d", c.text, c.shades, c.limit, by.nodes, c.want.nodes)
		}
	}
}

func TestNodesOfFewestVeneers(t *testing.T) {
	for _, c := range []nodes{
		// For m = 0 there are none, for m = 1 each index can be first, and another one is not tried behind it.
		{twoFaces, []int64{40, 20}, 0, found{[]int64{0, 0}, 1, 2, true}}, {twoFaces, []int64{40, 20}, 20, found{[]int64{0, 1}, 2, 2 + 2, true}}, {twoFaces, []int64{40, 20}, 21, found{nil, 0, 2 + 2, false}}, {twoFaces, []int64{40}, 0, found{[]int64{0, 0}, 1, 2, true}}, {twoFaces, []int64{40}, 1, found{nil, 0, 1, false}},
		{oneFace, []int64{40, 20}, 115, found{[]int64{0}, 1, 1, true}}, {twoApart, []int64{40, 20}, 115, found{[]int64{0, 0}, 1, 2, true}}, {noFaces, []int64{40, 20}, 115, found{nil, 0, 0, true}}, {noFaces, []int64{40}, 0, found{nil, 0, 0, true}},
		{chain, []int64{40, 20}, 20, found{[]int64{0, 1, 0, 1}, 2, 2 + 4, true}}, {threeEach, []int64{0, 20, 40}, 20, found{[]int64{0, 1, 2}, 3, 3 + 9 + 3, true}}, {threeEach, []int64{0, 20, 40}, 21, found{nil, 0, 3 + 5 + 5, false}},
		// All numbers up to that of the veneers are tried, also if there are more than faces.
		{twoFaces, []int64{40, 41, 42}, 3, found{nil, 0, 3 * 3, false}}, {twoFaces, []int64{40, 40, 40, 40}, 1, found{nil, 0, 4 * 4, false}},
		// Two veneers that are equal have different indices.
		{twoFaces, []int64{40, 40, 20}, 20, found{[]int64{0, 2}, 2, 3 + 2, true}}, {threeEach, []int64{40, 40, 20}, 20, found{nil, 0, 3 + 2*7, false}}, {threeEach, []int64{40, 40}, 0, found{[]int64{0, 0, 0}, 1, 3, true}},
		// Behind the first indices, those that occur already are tried again.
		{chain, []int64{20, 40, 0}, 20, found{[]int64{0, 1, 0, 1}, 2, 3 + 4, true}}, {chain, []int64{20, 60, 40, 0}, 40, found{[]int64{0, 1, 0, 1}, 2, 4 + 4, true}}, {"30x10;0,0 10,0 20,0 30,0 30,10 20,10 10,10 0,10;a 0,1,6,7;b 1,2,5,6;c 2,3,4,5", []int64{60, 20, 40, 0}, 20, found{[]int64{0, 1, 0}, 2, 4 + 3, true}},
		{groups, []int64{40, 20, 60}, 40, found{[]int64{1, 1, 2, 2}, 2, 3*2 + (1 + 3) + 2 + 3, true}},
		// The first coloring has three different ones, but two are enough.
		{mixed, []int64{0, 20, 40}, 20, found{[]int64{0, 1, 1, 0}, 2, 3*2 + 4 + 3, true}},
	} {
		d, palette := draw(c.text), grainless(c.shades...)
		if by := fewestAsTold(d, palette, c.limit, allAsTold); by.nodes != c.want.nodes {
			t.Errorf("%s %v %d has %d nodes, want %d", c.text, c.shades, c.limit, by.nodes, c.want.nodes)
		}
		checkFewest(t, d, palette, c.limit, c.want)
	}
}

func TestNodesOfBestColoring(t *testing.T) {
	for _, c := range []nodes{
		// From 115 down: as many nodes as veneers for each limit at which the second face cannot have one.
		{twoFaces, []int64{40, 20}, 0, found{[]int64{0, 1}, 20, 95*2 + 2, true}}, {twoFaces, []int64{40}, 0, found{[]int64{0, 0}, 0, 115 + 2, true}}, {twoFaces, []int64{40, 40}, 0, found{[]int64{0, 0}, 0, 115*2 + 2, true}}, {twoFaces, []int64{40, 41}, 0, found{[]int64{0, 1}, 1, 114*2 + 2, true}},
		{twoFaces, []int64{0, 100}, 0, found{[]int64{0, 1}, 100, 15*2 + 2, true}}, {twoFaces, []int64{40, 20, 60}, 0, found{[]int64{1, 2}, 40, 75*3 + 3, true}}, {threeEach, []int64{40}, 0, found{[]int64{0, 0, 0}, 0, 115 + 3, true}}, {threeEach, []int64{0, 20, 40}, 0, found{[]int64{0, 1, 2}, 20, 75*3 + 20*5 + 3, true}},
		// Without neighbours, the first search finds a coloring.
		{oneFace, []int64{40, 20}, 0, found{[]int64{0}, 115, 1, true}}, {twoApart, []int64{40}, 0, found{[]int64{0, 0}, 115, 2, true}}, {noFaces, []int64{40}, 0, found{nil, 115, 0, true}}, {noFaces, []int64{40, 20}, 0, found{nil, 115, 0, true}},
	} {
		d, palette := draw(c.text), grainless(c.shades...)
		checkBest(t, d, palette, c.want)
		if by := bestAsTold(d, palette, allAsTold); by.nodes != c.want.nodes {
			t.Errorf("%s %v has %d nodes, want %d", c.text, c.shades, by.nodes, c.want.nodes)
		}
	}
	widest := []impl.Veneer{veneer("holly", 0, 0), veneer("ebony", 100, 90)}
	checkBest(t, draw(twoFaces), widest, found{[]int64{0, 1}, 115, 2, true})
	checkFirst(t, draw(twoFaces), widest, 115, found{[]int64{0, 1}, 0, 2, true})
	checkFewest(t, draw(twoFaces), widest, 115, found{[]int64{0, 1}, 2, 4, true})
}

// aside has n faces without neighbours, and behind them two that are neighbours.
func aside(n int) impl.Drawing {
	var polygons [][]impl.Point
	for k := range n + 1 {
		polygons = append(polygons, moved(poly("0,0 10,0 0,10"), int64(20*k), 0))
	}
	return drawingOf(append(polygons, moved(poly("10,0 10,10 0,10"), int64(20*n), 0))...)
}

// TestManyNodes counts up to the greatest budget and beyond it: each veneer at each of the first faces, for two faces at the end that can have no veneers together.
func TestManyNodes(t *testing.T) {
	for _, c := range []struct {
		alone, veneers int
		nodes          int64
	}{
		{0, 10, 10}, {1, 10, 110}, {2, 10, 1110}, {3, 10, 11110}, {4, 10, 111110}, {5, 5, 19530}, {6, 4, 21844}, {12, 2, 16382}, {13, 2, 32766}, {7, 3, 9840}, {8, 3, 29523}, {14, 1, 15},
	} {
		d, palette := aside(c.alone), slices.Repeat(grainless(40), c.veneers)
		checkFirst(t, d, palette, 1, found{nodes: c.nodes})
		// At a limit of 0, each search goes straight on.
		straight := found{make([]int64, c.alone+2), 0, int64(c.alone + 2), true}
		checkFirst(t, d, palette, 0, straight)
		straight.number = 1
		checkFewest(t, d, palette, 0, straight)
		checkBest(t, d, palette, found{straight.choice, 0, 115*c.nodes + straight.nodes, true})
	}
	// More nodes than any number of steps: the searches end at the budget.
	for _, d := range []impl.Drawing{crowd(24), aside(13), wheel(23)} {
		palette := slices.Repeat(grainless(40), impl.MaxPalette)
		for _, limit := range []int64{1, 115} {
			end := firstAsTold(d, palette, limit, inTurn)
			checkFirst(t, d, palette, limit, end)
			checkFewest(t, d, palette, limit, fewestAsTold(d, palette, limit, inTurn))
		}
	}
}
