package tests

import (
	"fmt"
	"math"
	"slices"
	"testing"

	"loop.example/g00956/impl"
)

// grainless are veneers with shades and the direction 0, so that their contrasts are the differences of the shades.
func grainless(shades ...int64) []impl.Veneer {
	list := shaded(shades...)
	for k := range list {
		list[k].Grain = 0
	}
	return list
}

func TestEdgeContrasts(t *testing.T) {
	for _, c := range []struct {
		text   string
		shades []int64
		want   string
	}{
		{"20x10;0,0 20,0 20,10 0,10;a 0,1,2;b 0,2,3", []int64{40, 40}, "[[0 1 0]]"}, {"20x10;0,0 20,0 20,10 0,10;a 0,1,2;b 0,2,3", []int64{40, 20}, "[[0 1 20]]"}, {"20x10;0,0 20,0 20,10 0,10;a 0,1,2;b 0,2,3", []int64{0, 100}, "[[0 1 100]]"},
		{"20x10;0,0 20,0 20,10 0,10 5,5;a 0,1,4;b 1,2,4;c 4,2,3;d 0,4,3", []int64{10, 20, 40, 80}, "[[0 1 10] [0 3 70] [1 2 20] [2 3 40]]"}, {"10x10;", nil, "[]"}, {"10x10;0,0 10,0 0,10;a 0,1,2", []int64{40}, "[]"},
		{fan, []int64{0, 1, 3, 7, 15}, "[[0 1 1] [0 2 3] [0 4 15] [1 2 2] [1 4 14] [2 4 12]]"},
		// At a point only, and along a part of an edge that is not an edge of both: no neighbours.
		{neighbourTexts[1], []int64{10, 20}, "[]"}, {neighbourTexts[2], []int64{10, 20}, "[]"}, {neighbourTexts[3], []int64{10, 20}, "[]"}, {neighbourTexts[4], []int64{10, 20, 40}, "[[0 1 10] [1 2 20]]"},
		// Several edges in common make one pair.
		{neighbourTexts[5], []int64{10, 20}, "[[0 1 10]]"}, {neighbourTexts[6], []int64{10, 20}, "[[0 1 10]]"}, {neighbourTexts[7], []int64{10, 20, 40}, "[[0 1 10] [0 2 30] [1 2 20]]"}, {neighbourTexts[8], []int64{20, 10}, "[[0 1 10]]"},
		{neighbourTexts[9], []int64{10, 20}, "[]"}, {neighbourTexts[10], []int64{10, 20}, "[[0 1 10]]"}, {neighbourTexts[11], []int64{10, 20, 40, 80}, "[[0 1 10] [1 2 20] [2 3 40]]"}, {neighbourTexts[12], []int64{0, 1, 3, 7, 15}, "[[0 1 1] [0 2 3] [0 4 15] [1 2 2] [1 3 6] [2 3 4] [2 4 12] [3 4 8]]"},
		{neighbourTexts[13], []int64{0, 1, 3, 7}, "[[0 2 3] [1 3 6]]"},
	} {
		p := impl.Picture{Drawing: draw(c.text), Veneers: grainless(c.shades...)}
		list, code := impl.EdgeContrasts(p)
		checkList(t, fmt.Sprint("EdgeContrasts ", c.text, c.shades), list, code, c.want)
	}
	p := impl.Picture{Drawing: draw(coverTexts[0]), Veneers: []impl.Veneer{veneer("oak", 40, 0), veneer("ash", 20, 90)}}
	list, code := impl.EdgeContrasts(p)
	checkList(t, "EdgeContrasts with grains", list, code, "[[0 1 35]]")
}

// TestPairsAreInOrder has more faces than one digit counts, so that an order of texts would show.
func TestPairsAreInOrder(t *testing.T) {
	for _, d := range []impl.Drawing{crowd(impl.MaxFaces), fullMesh(), renumbered(fullMesh(), 7)} {
		list, code := impl.EdgeContrasts(pictureOf(d, 1))
		if !slices.IsSortedFunc(list, slices.Compare) || len(list) != len(pairsAsTold(d)) || len(list) < 30 || code != impl.OK {
			t.Errorf("%d pairs: %v, %d", len(list), list, code)
		}
	}
	if list, _ := impl.EdgeContrasts(pictureOf(crowd(impl.MaxFaces), 1)); len(list) != 24*23/2 {
		t.Errorf("%d pairs of a crowd", len(list))
	}
}

func TestWeakestPair(t *testing.T) {
	const around = "20x10;0,0 20,0 20,10 0,10 5,5;a 0,1,4;b 1,2,4;c 4,2,3;d 0,4,3"
	for _, c := range []struct {
		text   string
		shades []int64
		want   []int64
	}{
		{coverTexts[0], []int64{40, 20}, []int64{0, 1, 20}}, {coverTexts[0], []int64{40, 40}, []int64{0, 1, 0}}, {coverTexts[0], []int64{0, 100}, []int64{0, 1, 100}}, {around, []int64{10, 20, 40, 80}, []int64{0, 1, 10}}, {around, []int64{80, 10, 40, 20}, []int64{2, 3, 20}}, {around, []int64{10, 80, 40, 20}, []int64{0, 3, 10}},
		// The first one of several, also if the least contrast comes late.
		{around, []int64{10, 20, 10, 20}, []int64{0, 1, 10}}, {around, []int64{40, 40, 40, 40}, []int64{0, 1, 0}}, {around, []int64{10, 50, 45, 40}, []int64{1, 2, 5}}, {around, []int64{45, 10, 60, 50}, []int64{0, 3, 5}}, {around, []int64{45, 10, 55, 50}, []int64{0, 3, 5}}, {around, []int64{10, 50, 45, 50}, []int64{1, 2, 5}},
		// Faces with a lesser contrast that are no neighbours.
		{around, []int64{10, 40, 10, 40}, []int64{0, 1, 30}},
	} {
		p := impl.Picture{Drawing: draw(c.text), Veneers: grainless(c.shades...)}
		if i, k, contrast, code := impl.WeakestPair(p); !slices.Equal([]int64{i, k, contrast}, c.want) || code != impl.OK {
			t.Errorf("WeakestPair(%s, %v) is %d, %d, %d, %d, want %v", c.text, c.shades, i, k, contrast, code, c.want)
		}
	}
	for _, text := range []string{"10x10;", "10x10;5,5", "10x10;0,0 10,0 0,10;a 0,1,2", neighbourTexts[1], neighbourTexts[2], neighbourTexts[3], neighbourTexts[9]} {
		if i, k, contrast, code := impl.WeakestPair(pictureOf(draw(text), 1)); i != 0 || k != 0 || contrast != 0 || code != impl.ErrState {
			t.Errorf("WeakestPair(%s) is %d, %d, %d, %d", text, i, k, contrast, code)
		}
	}
}

func TestWeakPairs(t *testing.T) {
	p := impl.Picture{Drawing: draw("20x10;0,0 20,0 20,10 0,10 5,5;a 0,1,4;b 1,2,4;c 4,2,3;d 0,4,3"), Veneers: grainless(10, 20, 40, 80)}
	widest := impl.Picture{Drawing: draw(coverTexts[0]), Veneers: []impl.Veneer{veneer("holly", 0, 0), veneer("ebony", 100, 90)}}
	for _, c := range []struct {
		p     impl.Picture
		limit int64
		want  string
	}{
		{p, 0, "[]"}, {p, 1, "[]"}, {p, 10, "[]"}, {p, 11, "[[0 1]]"}, {p, 20, "[[0 1]]"}, {p, 21, "[[0 1] [1 2]]"}, {p, 40, "[[0 1] [1 2]]"}, {p, 41, "[[0 1] [1 2] [2 3]]"}, {p, 70, "[[0 1] [1 2] [2 3]]"}, {p, 71, "[[0 1] [0 3] [1 2] [2 3]]"}, {p, 115, "[[0 1] [0 3] [1 2] [2 3]]"},
		{widest, 115, "[]"}, {widest, 0, "[]"}, {pictureOf(draw("10x10;"), 0), 115, "[]"}, {pictureOf(draw(neighbourTexts[1]), 0), 115, "[]"}, {impl.Picture{Drawing: draw(coverTexts[0]), Veneers: grainless(40, 40)}, 0, "[]"}, {impl.Picture{Drawing: draw(coverTexts[0]), Veneers: grainless(40, 40)}, 1, "[[0 1]]"},
	} {
		pairs, code := impl.WeakPairs(c.p, c.limit)
		checkList(t, fmt.Sprint("WeakPairs ", c.p, c.limit), pairs, code, c.want)
	}
	for _, p := range []impl.Picture{p, widest, pictureOf(draw("10x10;"), 0), pictureOf(crowd(24), 0)} {
		for _, limit := range noContrasts {
			pairs, code := impl.WeakPairs(p, limit)
			checkNone(t, fmt.Sprint("WeakPairs ", p, limit), len(pairs), code, impl.ErrRange)
		}
	}
}

// noContrasts are numbers that are no limit.
var noContrasts = []int64{-1, -2, -115, 116, 117, 1000, -1 << 32, 1 << 32, 1<<32 + 40, math.MinInt64, math.MinInt64 + 1, math.MaxInt64 - 1, math.MaxInt64}
