package tests

import (
	"fmt"
	"slices"
	"testing"

	"loop.example/g00956/impl"
)

const large = impl.MaxValue

func checkAreaBound(t *testing.T, areas, usable []int64, want, wantCode int64) {
	t.Helper()
	if got, code := impl.AreaBound(areas, usable); got != want || code != wantCode {
		t.Fatalf("AreaBound(%.300v, %.300v) is %d, %d, want %d, %d", fmt.Sprint(areas), fmt.Sprint(usable), got, code, want, wantCode)
	}
}

func TestAreaBound(t *testing.T) {
	for _, c := range []struct {
		areas, usable  []int64
		want, wantCode int64
	}{
		{[]int64{1001, 1000}, []int64{300, 800, 500}, 2, impl.OK}, {[]int64{5000}, []int64{300}, 0, impl.ErrNotFound},
		// Half of an odd sum is rounded up.
		{[]int64{1}, []int64{1}, 1, impl.OK}, {[]int64{1}, []int64{0}, 0, impl.ErrNotFound}, {[]int64{81}, []int64{40}, 0, impl.ErrNotFound}, {[]int64{81}, []int64{41}, 1, impl.OK}, {[]int64{81}, []int64{40, 1}, 2, impl.OK}, {[]int64{3, 4, 4}, []int64{5, 5}, 2, impl.OK}, {[]int64{3, 3, 4}, []int64{5, 5}, 1, impl.OK},
		// Each number alone is not rounded.
		{[]int64{1, 1}, []int64{1}, 1, impl.OK}, {[]int64{1, 1, 1}, []int64{2}, 1, impl.OK}, {[]int64{1, 1, 1, 1}, []int64{2}, 1, impl.OK}, {[]int64{5, 5}, []int64{5}, 1, impl.OK}, {[]int64{5, 5}, []int64{4}, 0, impl.ErrNotFound},
		// Reached exactly, and missed by one.
		{[]int64{200}, []int64{100}, 1, impl.OK}, {[]int64{200}, []int64{99}, 0, impl.ErrNotFound}, {[]int64{200}, []int64{99, 1}, 2, impl.OK}, {[]int64{200, 200}, []int64{120, 80}, 2, impl.OK}, {[]int64{200, 200}, []int64{120, 79}, 0, impl.ErrNotFound}, {[]int64{200, 200}, []int64{120, 79, 1, 1}, 3, impl.OK}, {[]int64{200, 201}, []int64{120, 80}, 0, impl.ErrNotFound},
		// Empty lists and lists of zeros.
		{nil, nil, 0, impl.OK}, {[]int64{}, []int64{}, 0, impl.OK}, {nil, []int64{5}, 0, impl.OK}, {nil, []int64{0}, 0, impl.OK}, {[]int64{0}, nil, 0, impl.OK}, {[]int64{0, 0}, []int64{0, 0}, 0, impl.OK}, {[]int64{0, 0}, []int64{7}, 0, impl.OK}, {[]int64{2}, nil, 0, impl.ErrNotFound}, {[]int64{1}, nil, 0, impl.ErrNotFound}, {[]int64{2, 0}, []int64{0, 0, 1}, 1, impl.OK}, {[]int64{2}, []int64{0, 0}, 0, impl.ErrNotFound},
		// Equal numbers, and the greatest ones in any place.
		{[]int64{60}, []int64{10, 10, 10, 10}, 3, impl.OK}, {[]int64{61}, []int64{10, 10, 10, 10}, 4, impl.OK}, {[]int64{81}, []int64{10, 10, 10, 10}, 0, impl.ErrNotFound}, {[]int64{100}, []int64{1, 2, 3, 50}, 1, impl.OK}, {[]int64{102}, []int64{50, 1, 2, 3}, 2, impl.OK}, {[]int64{102}, []int64{1, 50, 2, 3}, 2, impl.OK}, {[]int64{20, 40, 20}, []int64{9, 10, 100, 11}, 1, impl.OK}, {[]int64{44}, []int64{9, 10, 11, 10}, 3, impl.OK},
		{[]int64{large}, []int64{large}, 1, impl.OK}, {[]int64{large, large}, []int64{large}, 1, impl.OK}, {[]int64{large, large, 1}, []int64{large}, 0, impl.ErrNotFound}, {[]int64{large, large, 1}, []int64{1, large}, 2, impl.OK}, {[]int64{large - 1, large}, []int64{large - 1, large - 1}, 2, impl.OK},
	} {
		checkAreaBound(t, c.areas, c.usable, c.want, c.wantCode)
		reversed := slices.Clone(c.usable)
		slices.Reverse(reversed)
		checkAreaBound(t, c.areas, reversed, c.want, c.wantCode)
		slices.Sort(reversed)
		checkAreaBound(t, c.areas, reversed, c.want, c.wantCode)
	}
}

// TestAreaBoundOfSets compares with all sets of the numbers.
func TestAreaBoundOfSets(t *testing.T) {
	found := map[int64]int{}
	for seed := range 3000 {
		next := dice(seed)
		limit := []int64{2, 5, 20, 1000, large}[seed%5]
		var areas, usable []int64
		for range next(8) {
			areas = append(areas, next(limit+1))
		}
		for range next(9) {
			usable = append(usable, next(limit+1)/(1+next(3)))
		}
		want, code := areaBoundOfSets(areas, usable), int64(impl.OK)
		found[want]++
		if want < 0 {
			want, code = 0, impl.ErrNotFound
		}
		checkAreaBound(t, areas, usable, want, code)
	}
	for k := int64(-1); k <= 5; k++ {
		if found[k] < 20 {
			t.Errorf("only %d of %d", found[k], k)
		}
	}
}

// TestAreaBoundOfLongLists has each number up to MaxList as the bound.
func TestAreaBoundOfLongLists(t *testing.T) {
	for k := range int64(impl.MaxList + 1) {
		areas, usable := slices.Repeat([]int64{14}, int(k)), slices.Repeat([]int64{7}, impl.MaxList)
		checkAreaBound(t, areas, usable, k, impl.OK)
		checkAreaBound(t, areas, usable[:k], k, impl.OK)
		if k > 0 {
			checkAreaBound(t, areas, usable[:k-1], 0, impl.ErrNotFound)
			areas[k/2]++
			// The half that is rounded up takes one leaf more, if there is one.
			if k < impl.MaxList {
				checkAreaBound(t, areas, usable, k+1, impl.OK)
			}
			checkAreaBound(t, areas, usable[:k], 0, impl.ErrNotFound)
		}
	}
	greatest := slices.Repeat([]int64{large}, impl.MaxList)
	checkAreaBound(t, greatest, greatest, 32, impl.OK)
	checkAreaBound(t, greatest[:63], greatest, 32, impl.OK)
	checkAreaBound(t, greatest, greatest[:32], 32, impl.OK)
	checkAreaBound(t, greatest, greatest[:31], 0, impl.ErrNotFound)
	for n := range 200 {
		next := dice(n)
		var areas, usable []int64
		for range 64 {
			areas, usable = append(areas, next(large/2)), append(usable, next(large/(1+next(4)))+1)
		}
		if want := areaBoundAsTold(areas, usable); want < 0 {
			checkAreaBound(t, areas, usable, 0, impl.ErrNotFound)
		} else {
			checkAreaBound(t, areas, usable, want, impl.OK)
		}
	}
}

// TestCodesOfAreaBound has each error with and without those that are checked later.
func TestCodesOfAreaBound(t *testing.T) {
	for _, n := range []int{1, 2, 5, 64, 65, 66, 1000} {
		for _, other := range []int{0, 1, 64, 65} {
			for _, bad := range noAreas {
				for _, place := range []int{0, n / 2, n - 1} {
					for _, filling := range []int64{0, 5, large} {
						list := slices.Repeat([]int64{filling}, n)
						list[place] = bad
						checkAreaBound(t, list, slices.Repeat([]int64{5}, other), 0, impl.ErrRange)
						checkAreaBound(t, slices.Repeat([]int64{5}, other), list, 0, impl.ErrRange)
						checkAreaBound(t, list, list, 0, impl.ErrRange)
					}
				}
			}
		}
	}
	for _, n := range []int{65, 66, 100, 100000} {
		for _, number := range []int64{0, 1, large} {
			list := slices.Repeat([]int64{number}, n)
			for _, other := range [][]int64{nil, {0}, {5}, {large}, slices.Repeat([]int64{large}, 64), list} {
				checkAreaBound(t, list, other, 0, impl.ErrFull)
				checkAreaBound(t, other, list, 0, impl.ErrFull)
			}
		}
	}
	// Exactly as many numbers as there may be, and the greatest one.
	checkAreaBound(t, slices.Repeat([]int64{0}, 64), nil, 0, impl.OK)
	checkAreaBound(t, slices.Repeat([]int64{0}, 65), nil, 0, impl.ErrFull)
	checkAreaBound(t, nil, slices.Repeat([]int64{0}, 64), 0, impl.OK)
	checkAreaBound(t, nil, slices.Repeat([]int64{0}, 65), 0, impl.ErrFull)
	checkAreaBound(t, nil, []int64{large}, 0, impl.OK)
	checkAreaBound(t, []int64{large}, []int64{large / 2}, 1, impl.OK)
}

func checkLeavesBound(t *testing.T, d impl.Drawing, list []impl.Leaf, want, wantCode int64) {
	t.Helper()
	if got, code := impl.LeavesBound(d, list); got != want || code != wantCode {
		t.Fatalf("LeavesBound of %v and %v is %d, %d, want %d, %d", d, list, got, code, want, wantCode)
	}
	if impl.EnoughStock(d, list) != (wantCode == impl.OK) {
		t.Fatalf("EnoughStock of %v and %v is not right: the bound is %d, %d", d, list, want, wantCode)
	}
}

func TestLeavesBound(t *testing.T) {
	squares := func(n int) impl.Drawing { return blocks(n).Drawing }
	// The doubled area is 81.
	corner := drawingOf(poly("0,0 9,0 0,9"))
	bar := drawingOf(poly("0,0 100,0 100,10 0,10"))
	for _, c := range []struct {
		d              impl.Drawing
		list           []impl.Leaf
		want, wantCode int64
	}{
		{squares(1), oakLeaves(10, 10), 1, impl.OK}, {squares(2), oakLeaves(10, 10), 0, impl.ErrNotFound}, {squares(2), oakLeaves(10, 10, 10, 10), 2, impl.OK}, {squares(3), oakLeaves(10, 10, 10, 20, 10, 10), 2, impl.OK}, {squares(3), oakLeaves(10, 10, 10, 10, 10, 30), 1, impl.OK}, {squares(16), oakLeaves(slices.Repeat([]int64{10}, 32)...), 16, impl.OK}, {squares(17), oakLeaves(slices.Repeat([]int64{10}, 32)...), 0, impl.ErrNotFound},
		// Enough area, although there is no nesting.
		{squares(2), oakLeaves(10, 19, 10, 19), 2, impl.OK}, {squares(3), oakLeaves(15, 20), 1, impl.OK}, {corner, []impl.Leaf{leafOf(10, 10, box(1, 0, 1, 10), box(8, 0, 1, 10))}, 1, impl.OK},
		// A face that fits no leaf, although the area would be enough, and one that fits the last one.
		{bar, oakLeaves(50, 50), 0, impl.ErrNotFound}, {bar, oakLeaves(99, 99, 90, 90), 0, impl.ErrNotFound}, {bar, oakLeaves(50, 50, 10, 100), 1, impl.OK}, {drawingOf(poly("0,0 10,0 10,10 0,10"), poly("0,0 100,0 100,10 0,10")), oakLeaves(99, 99), 0, impl.ErrNotFound}, {drawingOf(poly("0,0 100,0 100,10 0,10"), poly("0,0 10,0 10,10 0,10")), oakLeaves(50, 50), 0, impl.ErrNotFound},
		// Defects that overlap count once, half of 81 is rounded up, and all areas of a leaf count.
		{squares(1), []impl.Leaf{leafOf(20, 20, box(0, 0, 10, 20), box(5, 0, 10, 20))}, 1, impl.OK}, {squares(1), []impl.Leaf{leafOf(20, 20, box(0, 0, 10, 20), box(6, 0, 10, 20))}, 0, impl.ErrNotFound}, {squares(1), []impl.Leaf{leafOf(20, 20, box(0, 0, 20, 20))}, 0, impl.ErrNotFound}, {squares(1), []impl.Leaf{leafOf(20, 20, slices.Repeat([]impl.Box{box(0, 0, 15, 20)}, 6)...)}, 1, impl.OK},
		{corner, []impl.Leaf{leafOf(10, 10, box(0, 0, 10, 5), box(0, 5, 9, 1))}, 1, impl.OK}, {corner, []impl.Leaf{leafOf(10, 10, box(0, 0, 10, 6))}, 0, impl.ErrNotFound}, {corner, []impl.Leaf{leafOf(10, 10, box(0, 0, 10, 5), box(0, 5, 10, 1), box(0, 6, 1, 1))}, 0, impl.ErrNotFound},
		// Without faces, and without leaves.
		{draw("10x10;"), nil, 0, impl.OK}, {draw("10x10;0,0 10,0 10,10"), oakLeaves(10, 10), 0, impl.OK}, {squares(1), nil, 0, impl.ErrNotFound}, {draw("10x10;"), []impl.Leaf{leafOf(10, 10, box(0, 0, 10, 10))}, 0, impl.OK},
		// The limits.
		{crowd(16), oakLeaves(slices.Repeat([]int64{most}, 32)...), 16, impl.OK}, {crowd(17), oakLeaves(slices.Repeat([]int64{most}, 32)...), 0, impl.ErrNotFound}, {crowd(24), oakLeaves(slices.Repeat([]int64{most}, 32)...), 0, impl.ErrNotFound}, {crowd(1), oakLeaves(most, most), 1, impl.OK}, {crowd(1), []impl.Leaf{leafOf(most, most, box(0, 0, 1, 1))}, 0, impl.ErrNotFound},
	} {
		checkLeavesBound(t, c.d, c.list, c.want, c.wantCode)
		if want, code := leavesBoundAsTold(c.d, c.list); want != c.want || code != c.wantCode {
			t.Errorf("as told, the bound of %v and %v is %d, %d", c.d, c.list, want, code)
		}
	}
	// The area of the example: the leaf is as large as the face, and a smaller one has too little width.
	d := draw("40x20;0,0 40,0 40,20 0,20;a 0,1,2,3")
	checkLeavesBound(t, d, oakLeaves(30, 50), 1, impl.OK)
	checkLeavesBound(t, d, oakLeaves(15, 50), 0, impl.ErrNotFound)
}

func TestLeavesBoundAsTold(t *testing.T) {
	codes := map[int64]int{}
	for n, d := range goodDrawings() {
		width, length := int64(10+n%90), int64(10+n*7%200)
		for _, list := range [][]impl.Leaf{leavesOf(n % 17), givenLeaves(), oakLeaves(width, length, length, width, 40, 40, 12, 90, 20, 20), oakLeaves(d.Width, d.Height, 10, 10, d.Height, d.Width)} {
			want, code := leavesBoundAsTold(d, list)
			checkLeavesBound(t, d, list, want, code)
			codes[code]++
		}
	}
	for seed := range 600 {
		c := smallNest(seed)
		want, code := leavesBoundAsTold(c.pic.Drawing, c.leaves)
		checkLeavesBound(t, c.pic.Drawing, c.leaves, want, code)
		codes[code]++
	}
	if codes[impl.OK] < 300 || codes[impl.ErrNotFound] < 300 {
		t.Errorf("codes %v", codes)
	}
}

// TestNestingsHaveEnoughStock is what the chapter says of EnoughStock: there is no nesting without it, and no nesting uses fewer leaves than the bound.
func TestNestingsHaveEnoughStock(t *testing.T) {
	nestings, exact := 0, 0
	for seed := range 600 {
		c := smallNest(seed)
		c.step, c.r = 1+int64(seed%3)*2, anyWay
		list, code := impl.GreedyNesting(c.pic, c.leaves, c.r, c.step)
		if code != impl.OK {
			continue
		}
		used, _ := impl.UsedLeaves(list)
		bound, code := impl.LeavesBound(c.pic.Drawing, c.leaves)
		if code != impl.OK || bound > int64(len(used)) || !impl.EnoughStock(c.pic.Drawing, c.leaves) {
			t.Fatalf("%v has the nesting %v, but the bound %d, %d", c, list, bound, code)
		}
		nestings++
		if bound == int64(len(used)) {
			exact++
		}
	}
	if nestings < 100 || exact < 50 {
		t.Errorf("only %d nestings, and %d with as few leaves as the bound", nestings, exact)
	}
}
