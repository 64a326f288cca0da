package tests

import (
	"fmt"
	"math"
	"slices"
	"sort"
	"strings"

	"loop.example/g00956/impl"
)

// noAreas are numbers that no area may be.
var noAreas = []int64{-1, -2, -impl.MaxValue, impl.MaxValue + 1, impl.MaxValue + 2, math.MinInt64, math.MinInt64 + 1, math.MaxInt64 - 1, math.MaxInt64}

// noLengths are numbers that no width and no length may be.
var noLengths = []int64{0, -1, -5, -most, most + 1, most + 2, 1 << 32, 1<<32 + 5, -1 << 32, math.MinInt64, math.MinInt64 + 1, math.MinInt64 + 5, math.MaxInt64 - 1, math.MaxInt64}

// spanOf returns the width and the length of the box of some points.
func spanOf(p []impl.Point) (width, length int64) {
	var xs, ys []int64
	for _, corner := range p {
		xs, ys = append(xs, corner.X), append(ys, corner.Y)
	}
	return slices.Max(xs) - slices.Min(xs), slices.Max(ys) - slices.Min(ys)
}

// turnsThatFitAsTold does not turn the polygon: each quarter turn exchanges width and length, and a mirror does not.
func turnsThatFitAsTold(p []impl.Point, l impl.Leaf) []int64 {
	var turns []int64
	for turn := range int64(8) {
		width, length := spanOf(p)
		if turn == 1 || turn == 3 || turn == 5 || turn == 7 {
			width, length = length, width
		}
		if width <= l.Width && length <= l.Length {
			turns = append(turns, turn)
		}
	}
	return turns
}

func unfitAsTold(d impl.Drawing, list []impl.Leaf) []int64 {
	var faces []int64
	for k := range d.Faces {
		fitting := 0
		for _, l := range list {
			fitting += len(turnsThatFitAsTold(polygonOf(d, k), l))
		}
		if fitting == 0 {
			faces = append(faces, int64(k))
		}
	}
	return faces
}

func areasAsTold(d impl.Drawing) []int64 {
	var areas []int64
	for k := range d.Faces {
		areas = append(areas, fanArea(polygonOf(d, k)))
	}
	return areas
}

// areaBoundAsTold takes the greatest number that is left, again and again; it is -1 if all of them are not enough.
func areaBoundAsTold(areas, usable []int64) int64 {
	left := slices.Clone(usable)
	var wanted, sum int64
	for _, area := range areas {
		wanted += area
	}
	for k := range int64(len(usable)) + 1 {
		// At least half of it, rounded up, is at least half of it.
		if 2*sum >= wanted {
			return k
		}
		if len(left) > 0 {
			greatest := slices.Index(left, slices.Max(left))
			sum += left[greatest]
			left = slices.Delete(left, greatest, greatest+1)
		}
	}
	return -1
}

// areaBoundOfSets is the least number of elements of all sets of the numbers that are enough.
func areaBoundOfSets(areas, usable []int64) int64 {
	var wanted int64
	for _, area := range areas {
		wanted += area
	}
	best := int64(-1)
	for set := range 1 << len(usable) {
		var sum, count int64
		for k, area := range usable {
			if set>>k&1 == 1 {
				sum += area
				count++
			}
		}
		if sum >= (wanted+1)/2 && (best < 0 || count < best) {
			best = count
		}
	}
	return best
}

// leavesBoundAsTold returns the code, too.
func leavesBoundAsTold(d impl.Drawing, list []impl.Leaf) (int64, int64) {
	var usable []int64
	for _, l := range list {
		usable = append(usable, usableBySets(l))
	}
	bound := areaBoundAsTold(areasAsTold(d), usable)
	if len(unfitAsTold(d, list)) > 0 || bound < 0 {
		return 0, impl.ErrNotFound
	}
	return bound, impl.OK
}

// shelfPlanAsTold sorts the boxes, and looks for the end of the last shelf among the boxes that are placed.
func shelfPlanAsTold(sizes [][]int64, width, length int64) [][]int64 {
	order := make([]int, len(sizes))
	for k := range order {
		order[k] = k
	}
	sort.SliceStable(order, func(i, k int) bool { return sizes[order[i]][1] > sizes[order[k]][1] })
	plan := make([][]int64, len(sizes))
	for n, k := range order {
		if n == 0 {
			plan[k] = []int64{0, 0, 0}
			continue
		}
		last := plan[order[n-1]]
		leaf, x, y := last[0], last[1]+sizes[order[n-1]][0], last[2]
		first := slices.IndexFunc(order[:n], func(i int) bool { return plan[i][0] == leaf && plan[i][2] == y })
		behind := y + sizes[order[first]][1]
		switch {
		case x+sizes[k][0] <= width:
			plan[k] = []int64{leaf, x, y}
		case behind+sizes[k][1] <= length:
			plan[k] = []int64{leaf, 0, behind}
		default:
			plan[k] = []int64{leaf + 1, 0, 0}
		}
	}
	return plan
}

// leavesOfPlan counts the leaves that differ.
func leavesOfPlan(plan [][]int64) int64 {
	leaves := map[int64]bool{}
	for _, place := range plan {
		leaves[place[0]] = true
	}
	return int64(len(leaves))
}

// boxesBoundAsTold takes one more leaf as long as their area is too small.
func boxesBoundAsTold(sizes [][]int64, width, length int64) int64 {
	var area, leaves int64
	for _, size := range sizes {
		area += size[0] * size[1]
	}
	for leaves*width*length < area {
		leaves++
	}
	return leaves
}

// shelfCode is the one that the functions with sizes return.
func shelfCode(sizes [][]int64, width, length int64) int64 {
	isLength := func(n int64) bool { return 1 <= n && n <= 20000 }
	isInRange, isPlaced := len(sizes) <= 24 && isLength(width) && isLength(length), true
	for _, size := range sizes {
		if len(size) != 2 || !isLength(size[0]) || !isLength(size[1]) {
			isInRange = false
		} else if size[0] > width || size[1] > length {
			isPlaced = false
		}
	}
	switch {
	case !isInRange:
		return impl.ErrRange
	case !isPlaced:
		return impl.ErrState
	}
	return impl.OK
}

// offcutsAsTold tells the box that is cut out, too.
func offcutsAsTold(l impl.Leaf, p []impl.Point) (offcuts []impl.Box, taken impl.Box, code int64) {
	width, length := spanOf(p)
	if width > l.Width || length > l.Length {
		width, length = length, width
	}
	if width > l.Width || length > l.Length {
		return nil, impl.Box{}, impl.ErrState
	}
	if width < l.Width {
		offcuts = append(offcuts, box(width, 0, l.Width-width, length))
	}
	if length < l.Length {
		offcuts = append(offcuts, box(0, length, l.Width, l.Length-length))
	}
	return offcuts, box(0, 0, width, length), impl.OK
}

// sizesOf reads sizes like "60x40 5x7".
func sizesOf(text string) [][]int64 {
	var sizes [][]int64
	for _, word := range strings.Fields(text) {
		size := []int64{0, 0}
		if n, err := fmt.Sscanf(word, "%dx%d", &size[0], &size[1]); n != 2 || err != nil {
			panic(text)
		}
		sizes = append(sizes, size)
	}
	return sizes
}

// someSizes are for leaves with a width and a length, so small or so large that many of them or few lie on one leaf.
func someSizes(seed int, width, length int64) [][]int64 {
	next := dice(seed)
	part := 1 + next(5)
	var sizes [][]int64
	for range next(25) {
		sizes = append(sizes, []int64{1 + next(max(1, width/part)), 1 + next(max(1, length/part))})
		if next(6) == 0 {
			// Halves, and boxes that are as wide or as long as the leaf.
			sizes[len(sizes)-1] = []int64{max(1, width/(1+next(3))), max(1, length/(1+next(3)))}
		}
	}
	return sizes
}
