package tests

import (
	"fmt"
	"math"
	"slices"
	"testing"

	"loop.example/g00956/impl"
)

func TestMaxSizes(t *testing.T) {
	if impl.MaxSizes != 24 {
		t.Errorf("MaxSizes is %d", impl.MaxSizes)
	}
}

// checkShelves compares the plan, and checks promise 13: the bound is never greater than the number of leaves.
func checkShelves(t *testing.T, sizes [][]int64, width, length int64, want [][]int64, wantLeaves, wantBound int64) {
	t.Helper()
	what := fmt.Sprintf("%v on %d to %d", sizes, width, length)
	plan, code := impl.ShelfPlan(sizes, width, length)
	if fmt.Sprint(plan) != fmt.Sprint(want) || len(plan) != len(sizes) || code != impl.OK {
		t.Fatalf("ShelfPlan of %s is %v, %d, want %v", what, plan, code, want)
	}
	leaves, code := impl.ShelfLeaves(sizes, width, length)
	if leaves != wantLeaves || leaves != leavesOfPlan(plan) || code != impl.OK {
		t.Fatalf("ShelfLeaves of %s is %d, %d, want %d", what, leaves, code, wantLeaves)
	}
	bound, code := impl.BoxesBound(sizes, width, length)
	if bound != wantBound || bound > leaves || code != impl.OK {
		t.Fatalf("BoxesBound of %s is %d, %d, want %d, and no more than %d", what, bound, code, wantBound, leaves)
	}
	checkLaid(t, what, sizes, width, length, plan)
}

// checkLaid checks that all boxes lie on their leaves without turns, and no two of them on one another.
func checkLaid(t *testing.T, what string, sizes [][]int64, width, length int64, plan [][]int64) {
	t.Helper()
	for k, place := range plan {
		b := box(place[1], place[2], sizes[k][0], sizes[k][1])
		if len(place) != 3 || place[0] < 0 || !withinAsTold(b, width, length) {
			t.Fatalf("%s: the box %d lies at %v", what, k, place)
		}
		for i, other := range plan[:k] {
			if meetAsTold(b, box(other[1], other[2], sizes[i][0], sizes[i][1])) && place[0] == other[0] {
				t.Fatalf("%s: the boxes %d and %d meet in %v", what, i, k, plan)
			}
		}
	}
}

func checkShelvesAsTold(t *testing.T, sizes [][]int64, width, length int64) {
	t.Helper()
	plan := shelfPlanAsTold(sizes, width, length)
	checkShelves(t, sizes, width, length, plan, leavesOfPlan(plan), boxesBoundAsTold(sizes, width, length))
}

func TestShelves(t *testing.T) {
	for _, c := range []struct {
		sizes         string
		want          string
		leaves, bound int64
	}{
		{"60x40 60x40", "[[0 0 0] [0 0 40]]", 1, 1}, {"60x40 60x40 60x40", "[[0 0 0] [0 0 40] [1 0 0]]", 2, 1}, {"", "[]", 0, 0}, {"1x1", "[[0 0 0]]", 1, 1}, {"100x100", "[[0 0 0]]", 1, 1}, {"100x100 100x100", "[[0 0 0] [1 0 0]]", 2, 2},
		// A box that just fits beside the last one, and one that does not.
		{"40x40 60x40", "[[0 0 0] [0 40 0]]", 1, 1}, {"41x40 60x40", "[[0 0 0] [0 0 40]]", 1, 1}, {"40x40 61x40", "[[0 0 0] [0 0 40]]", 1, 1}, {"30x40 30x40 40x40", "[[0 0 0] [0 30 0] [0 60 0]]", 1, 1}, {"30x40 30x40 41x40", "[[0 0 0] [0 30 0] [0 0 40]]", 1, 1}, {"100x40 1x40", "[[0 0 0] [0 0 40]]", 1, 1}, {"99x40 1x40", "[[0 0 0] [0 99 0]]", 1, 1},
		// A new shelf that just fits on the leaf, and one that does not.
		{"60x60 60x40", "[[0 0 0] [0 0 60]]", 1, 1}, {"60x60 60x41", "[[0 0 0] [1 0 0]]", 2, 1}, {"60x61 60x40", "[[0 0 0] [1 0 0]]", 2, 1}, {"60x50 60x30 60x20", "[[0 0 0] [0 0 50] [0 0 80]]", 1, 1}, {"60x50 60x30 60x21", "[[0 0 0] [0 0 50] [1 0 0]]", 2, 1}, {"60x100 60x1", "[[0 0 0] [1 0 0]]", 2, 1}, {"60x99 60x1", "[[0 0 0] [0 0 99]]", 1, 1},
		// The longest box first, of equally long ones the first one; the results stay in the order of the sizes.
		{"10x20 10x50 10x30", "[[0 20 0] [0 0 0] [0 10 0]]", 1, 1}, {"10x30 20x30 30x30", "[[0 0 0] [0 10 0] [0 30 0]]", 1, 1}, {"30x30 20x30 10x30", "[[0 0 0] [0 30 0] [0 50 0]]", 1, 1}, {"10x5 20x30 5x5 30x30 1x31", "[[0 51 0] [0 1 0] [0 61 0] [0 21 0] [0 0 0]]", 1, 1}, {"60x40 60x60", "[[0 0 60] [0 0 0]]", 1, 1}, {"60x41 60x60", "[[1 0 0] [0 0 0]]", 2, 1}, {"90x10 5x20 60x30", "[[0 0 30] [0 60 0] [0 0 0]]", 1, 1},
		// The width does not count for the order, nor does the area.
		{"90x10 10x11", "[[0 10 0] [0 0 0]]", 1, 1}, {"91x10 10x11", "[[0 0 11] [0 0 0]]", 1, 1},
		// A shorter box behind a longer one: the shelf stays as long as its first box.
		{"50x60 50x20 50x30", "[[0 0 0] [0 0 60] [0 50 0]]", 1, 1}, {"50x60 50x50 50x40 50x30", "[[0 0 0] [0 50 0] [0 0 60] [0 50 60]]", 1, 1}, {"50x60 50x50 50x41 50x30", "[[0 0 0] [0 50 0] [1 0 0] [1 50 0]]", 2, 1},
		// Never back to an earlier shelf, nor to an earlier leaf, although there is room.
		{"60x50 60x40 40x10", "[[0 0 0] [0 0 50] [0 60 50]]", 1, 1}, {"60x50 60x45 60x44 40x10", "[[0 0 0] [0 0 50] [1 0 0] [1 60 0]]", 2, 1}, {"60x50 60x45 60x44 41x10 40x10 40x5", "[[0 0 0] [0 0 50] [1 0 0] [1 0 44] [1 41 44] [1 0 54]]", 2, 1}, {"50x90 60x80 40x20 30x5", "[[0 0 0] [1 0 0] [1 60 0] [1 0 80]]", 2, 2}, {"60x60 60x50 60x40 60x30", "[[0 0 0] [1 0 0] [1 0 50] [2 0 0]]", 3, 2},
		// Areas that fill leaves exactly, and exceed them by one.
		{"50x100 50x100", "[[0 0 0] [0 50 0]]", 1, 1}, {"50x100 50x100 1x1", "[[0 0 0] [0 50 0] [1 0 0]]", 2, 2}, {"100x99 99x1 1x1", "[[0 0 0] [0 0 99] [0 99 99]]", 1, 1}, {"100x100 100x100 1x1", "[[0 0 0] [1 0 0] [2 0 0]]", 3, 3}, {"100x99 100x99 100x2", "[[0 0 0] [1 0 0] [2 0 0]]", 3, 2}, {"100x99 100x99 100x2 1x1", "[[0 0 0] [1 0 0] [2 0 0] [2 0 2]]", 3, 3},
	} {
		sizes := sizesOf(c.sizes)
		plan, code := impl.ShelfPlan(sizes, 100, 100)
		if fmt.Sprint(plan) != c.want || code != impl.OK {
			t.Errorf("ShelfPlan of %s is %v, %d, want %s", c.sizes, plan, code, c.want)
		}
		checkShelves(t, sizes, 100, 100, shelfPlanAsTold(sizes, 100, 100), c.leaves, c.bound)
	}
}

// TestShelvesOfOtherLeaves has leaves that are not as wide as long, so that no two directions may be exchanged.
func TestShelvesOfOtherLeaves(t *testing.T) {
	for _, c := range []struct {
		sizes         string
		width, length int64
		want          string
		leaves, bound int64
	}{
		{"60x40 60x40", 120, 40, "[[0 0 0] [0 60 0]]", 1, 1}, {"60x40 60x40", 60, 80, "[[0 0 0] [0 0 40]]", 1, 1}, {"60x40 60x40", 119, 79, "[[0 0 0] [1 0 0]]", 2, 1}, {"60x40 60x40", 80, 60, "[[0 0 0] [1 0 0]]", 2, 1}, {"3x1 1x2 1x1", 3, 2, "[[1 0 0] [0 0 0] [1 0 1]]", 2, 1}, {"1x1 1x1", 1, 1, "[[0 0 0] [1 0 0]]", 2, 2}, {"1x1 1x1 1x1", 1, 2, "[[0 0 0] [0 0 1] [1 0 0]]", 2, 2}, {"1x1 1x1 1x1", 2, 1, "[[0 0 0] [0 1 0] [1 0 0]]", 2, 2},
		{"", 1, 1, "[]", 0, 0}, {"", most, most, "[]", 0, 0}, {"20000x20000 20000x20000 1x1", most, most, "[[0 0 0] [1 0 0] [2 0 0]]", 3, 3}, {"20000x1 20000x19999", most, most, "[[0 0 19999] [0 0 0]]", 1, 1}, {"1x20000 19999x20000 1x1", most, most, "[[0 0 0] [0 1 0] [1 0 0]]", 2, 2}, {"1x1", most, most, "[[0 0 0]]", 1, 1},
	} {
		sizes := sizesOf(c.sizes)
		plan, code := impl.ShelfPlan(sizes, c.width, c.length)
		if fmt.Sprint(plan) != c.want || code != impl.OK {
			t.Errorf("ShelfPlan of %s on %d to %d is %v, %d, want %s", c.sizes, c.width, c.length, plan, code, c.want)
		}
		checkShelves(t, sizes, c.width, c.length, shelfPlanAsTold(sizes, c.width, c.length), c.leaves, c.bound)
	}
	greatest := slices.Repeat([][]int64{{most, most}}, impl.MaxSizes)
	checkShelvesAsTold(t, greatest, most, most)
	if bound, code := impl.BoxesBound(greatest, most, most); bound != 24 || code != impl.OK {
		t.Errorf("24 of the greatest boxes have the bound %d, %d", bound, code)
	}
}

func TestShelvesAsTold(t *testing.T) {
	beyond, equal := 0, 0
	for seed := range 4000 {
		next := dice(seed)
		width, length := 1+next(60), 1+next(60)
		if seed%7 == 0 {
			width, length = 1+next(most), 1+next(most)
		}
		sizes := someSizes(seed, width, length)
		checkShelvesAsTold(t, sizes, width, length)
		leaves, _ := impl.ShelfLeaves(sizes, width, length)
		if bound, _ := impl.BoxesBound(sizes, width, length); bound < leaves {
			beyond++
		} else {
			equal++
		}
	}
	if beyond < 500 || equal < 500 {
		t.Errorf("%d times more leaves than the bound, and %d times as many", beyond, equal)
	}
}

// TestAllShelvesOfThreeBoxes has all boxes with up to three in each direction.
func TestAllShelvesOfThreeBoxes(t *testing.T) {
	for width := int64(1); width <= 3; width++ {
		for length := int64(1); length <= 3; length++ {
			for n := range width * length * width * length * width * length {
				var sizes [][]int64
				for range 3 {
					sizes = append(sizes, []int64{1 + n%width, 1 + n/width%length})
					n /= width * length
				}
				checkShelvesAsTold(t, sizes, width, length)
			}
		}
	}
}

func checkNoShelves(t *testing.T, sizes [][]int64, width, length, want int64) {
	t.Helper()
	what := fmt.Sprintf(" of %.300v on %d to %d", fmt.Sprint(sizes), width, length)
	plan, code := impl.ShelfPlan(sizes, width, length)
	checkNone(t, "ShelfPlan"+what, len(plan), code, want)
	leaves, code := impl.ShelfLeaves(sizes, width, length)
	checkNone(t, "ShelfLeaves"+what, int(leaves), code, want)
	bound, code := impl.BoxesBound(sizes, width, length)
	checkNone(t, "BoxesBound"+what, int(bound), code, want)
}

// TestSizesBeyondTheirRange has each wrong list alone, with good ones, and with boxes that are larger than the leaf.
func TestSizesBeyondTheirRange(t *testing.T) {
	wrong := [][]int64{nil, {}, {5}, {0}, {5, 5, 5}, {5, 5, 0}, {5, 5, 5, 5}, make([]int64, 100000)}
	for _, n := range noLengths {
		wrong = append(wrong, []int64{n, 5}, []int64{5, n}, []int64{n, n}, []int64{n, most}, []int64{most, n})
		for _, sizes := range [][][]int64{nil, {}, {{5, 5}}, {{1, 1}, {5, 5}}, {{1000, 1000}}, {{5}}} {
			checkNoShelves(t, sizes, n, 100, impl.ErrRange)
			checkNoShelves(t, sizes, 100, n, impl.ErrRange)
			checkNoShelves(t, sizes, n, n, impl.ErrRange)
		}
	}
	for _, size := range wrong {
		for _, side := range [][2]int64{{100, 100}, {most, most}, {1, 1}, {0, 100}} {
			checkNoShelves(t, [][]int64{size}, side[0], side[1], impl.ErrRange)
			for place := range 3 {
				for _, other := range [][]int64{{5, 5}, {1, 1}, {101, 5}, {5, 101}, {most, most}} {
					sizes := slices.Repeat([][]int64{other}, 3)
					sizes[place] = size
					checkNoShelves(t, sizes, side[0], side[1], impl.ErrRange)
				}
			}
			full := slices.Repeat([][]int64{{1, 1}}, impl.MaxSizes)
			full[23] = size
			checkNoShelves(t, full, side[0], side[1], impl.ErrRange)
		}
	}
	for _, n := range []int{25, 26, 48, 100000} {
		for _, size := range [][]int64{{1, 1}, {5, 5}, {101, 5}, {5, 101}, {5}, nil} {
			checkNoShelves(t, slices.Repeat([][]int64{size}, n), 100, 100, impl.ErrRange)
		}
	}
}

func TestSizesWithinTheirRange(t *testing.T) {
	for _, width := range []int64{1, 2, most - 1, most} {
		for _, length := range []int64{1, 2, most - 1, most} {
			for _, n := range []int{0, 1, 2, 23, 24} {
				checkShelvesAsTold(t, slices.Repeat([][]int64{{1, 1}}, n), width, length)
				checkShelvesAsTold(t, slices.Repeat([][]int64{{width, length}}, n), width, length)
				checkShelvesAsTold(t, slices.Repeat([][]int64{{width, 1}}, n), width, length)
				checkShelvesAsTold(t, slices.Repeat([][]int64{{1, length}}, n), width, length)
			}
		}
	}
}

// TestBoxesLargerThanALeaf has boxes that are exactly as wide and as long, and wider or longer by one; no box is turned.
func TestBoxesLargerThanALeaf(t *testing.T) {
	for _, side := range [][2]int64{{1, 1}, {100, 100}, {100, 60}, {60, 100}, {1, most - 1}, {most - 1, most - 1}} {
		width, length := side[0], side[1]
		checkShelves(t, [][]int64{{width, length}}, width, length, [][]int64{{0, 0, 0}}, 1, 1)
		for _, size := range [][]int64{{width + 1, length}, {width, length + 1}, {width + 1, length + 1}, {most, 1}, {1, most}, {most, most}} {
			if size[0] <= width && size[1] <= length || size[0] > most || size[1] > most {
				continue
			}
			checkNoShelves(t, [][]int64{size}, width, length, impl.ErrState)
			checkNoShelves(t, [][]int64{{1, 1}, size}, width, length, impl.ErrState)
			checkNoShelves(t, [][]int64{size, {1, 1}}, width, length, impl.ErrState)
			full := slices.Repeat([][]int64{{1, 1}}, impl.MaxSizes)
			full[23] = size
			checkNoShelves(t, full, width, length, impl.ErrState)
		}
	}
	checkNoShelves(t, [][]int64{{100, 60}}, 60, 100, impl.ErrState)
	checkNoShelves(t, [][]int64{{10, 100}}, 100, 10, impl.ErrState)
	checkNoShelves(t, [][]int64{{101, 40}}, 100, 100, impl.ErrState)
	checkNoShelves(t, [][]int64{{101, 40}, {5}}, 100, 100, impl.ErrRange)
	checkNoShelves(t, [][]int64{{101, 40}, {0, 5}}, 100, 100, impl.ErrRange)
	checkNoShelves(t, [][]int64{{101, 40}, {5, math.MaxInt64}}, 100, 100, impl.ErrRange)
}

// TestCodesOfShelves has all kinds of sizes and leaves.
func TestCodesOfShelves(t *testing.T) {
	numbers := []int64{0, 1, 2, 3, 10, most - 1, most, most + 1, -1, math.MinInt64, math.MaxInt64}
	codes := map[int64]int{}
	for seed := range 20000 {
		next := dice(seed)
		number := func() int64 { return numbers[next(int64(min(len(numbers), 4+seed%40)))] }
		var sizes [][]int64
		for range next(4) {
			size := []int64{number(), number(), number()}
			sizes = append(sizes, size[:min(2, 1+next(20))])
		}
		width, length := number(), number()
		code := shelfCode(sizes, width, length)
		codes[code]++
		if code == impl.OK {
			checkShelvesAsTold(t, sizes, width, length)
		} else {
			checkNoShelves(t, sizes, width, length, code)
		}
	}
	if codes[impl.OK] < 500 || codes[impl.ErrState] < 500 || codes[impl.ErrRange] < 500 {
		t.Errorf("codes %v", codes)
	}
}
