package tests

import (
	"slices"
	"testing"

	"loop.example/g00956/impl"
)

func checkUsable(t *testing.T, l impl.Leaf, want int64) {
	t.Helper()
	if area, code := impl.UsableArea(l); area != want || code != impl.OK {
		t.Fatalf("UsableArea(%v) is %d, %d, want %d", l, area, code, want)
	}
}

// checkLargest wants the zero Box where no box is clear.
func checkLargest(t *testing.T, l impl.Leaf, want impl.Box) {
	t.Helper()
	wantCode := int64(impl.OK)
	if want == (impl.Box{}) {
		wantCode = impl.ErrNotFound
	}
	if b, code := impl.LargestClear(l); b != want || code != wantCode {
		t.Fatalf("LargestClear(%v) is %v, %d, want %v", l, b, code, want)
	}
}

// checkPromise10 is promise 10, and that a leaf has a clear box exactly if something is usable.
func checkPromise10(t *testing.T, l impl.Leaf) {
	t.Helper()
	area, areaCode := impl.UsableArea(l)
	b, code := impl.LargestClear(l)
	if areaCode != impl.OK || area < 0 || area > l.Width*l.Length || b.Width*b.Length > area || (code == impl.OK) != (area > 0) {
		t.Fatalf("%v: %d is usable, and %v, %d is the largest clear box", l, area, b, code)
	}
	if code != impl.OK {
		return
	}
	if !withinAsTold(b, l.Width, l.Length) {
		t.Fatalf("%v: %v does not lie within", l, b)
	}
	for _, d := range l.Defects {
		if impl.BoxesMeet(b, d) {
			t.Fatalf("%v: %v meets the defect %v", l, b, d)
		}
	}
	trimmed, code := impl.TrimLeaf(l, b)
	if min(b.Width, b.Length) >= impl.MinLeaf && (code != impl.OK || len(trimmed.Defects) > 0) {
		t.Fatalf("%v: the part within %v is %v, %d", l, b, trimmed, code)
	}
}

func TestUsableArea(t *testing.T) {
	for _, c := range []struct {
		l    impl.Leaf
		want int64
	}{
		{leafOf(10, 10), 100}, {leafOf(most, most), most * most}, {leafOf(10, most), 10 * most}, {leafOf(100, 100, box(40, 0, 20, 100)), 8000}, {leafOf(100, 200, box(40, 0, 20, 200)), 16000}, {leafOf(50, 50, box(0, 0, 10, 10), box(5, 5, 10, 10)), 2325},
		// Apart, and side by side.
		{leafOf(50, 40, box(0, 0, 10, 10), box(20, 20, 5, 4)), 1880}, {leafOf(50, 40, box(0, 0, 10, 10), box(10, 0, 10, 10)), 1800}, {leafOf(50, 40, box(0, 0, 10, 10), box(10, 10, 10, 10)), 1800},
		// In part, within one another in both orders, the same one twice and six times.
		{leafOf(50, 40, box(0, 0, 10, 10), box(9, 9, 10, 10)), 1801}, {leafOf(50, 40, box(0, 0, 10, 10), box(2, 0, 10, 10)), 1880}, {leafOf(50, 40, box(0, 0, 20, 20), box(5, 5, 3, 3)), 1600}, {leafOf(50, 40, box(5, 5, 3, 3), box(0, 0, 20, 20)), 1600}, {leafOf(50, 40, box(5, 5, 3, 3), box(5, 5, 3, 3)), 1991}, {leafOf(50, 40, slices.Repeat([]impl.Box{box(5, 5, 3, 3)}, 6)...), 1991},
		{leafOf(50, 40, box(0, 0, 20, 20), box(0, 0, 3, 20)), 1600}, {leafOf(50, 40, box(0, 10, 50, 5), box(10, 0, 5, 40)), 1575},
		// Three with a common part, and a ring of four around a clear middle.
		{leafOf(50, 40, box(0, 0, 10, 10), box(5, 0, 10, 10), box(5, 5, 5, 10)), 1825}, {leafOf(50, 40, box(0, 0, 20, 10), box(5, 5, 5, 20), box(0, 8, 30, 4)), 1655}, {leafOf(10, 10, box(0, 0, 10, 4), box(0, 6, 10, 4), box(0, 0, 4, 10), box(6, 0, 4, 10)), 4},
		// All of the leaf, by one, by two that overlap, by four, and nearly all of it.
		{leafOf(10, 10, box(0, 0, 10, 10)), 0}, {leafOf(10, 12, box(0, 0, 6, 12), box(5, 0, 5, 12)), 0}, {leafOf(10, 10, box(0, 0, 5, 5), box(5, 0, 5, 5), box(0, 5, 5, 5), box(5, 5, 5, 5)), 0}, {leafOf(10, 10, box(0, 0, 10, 9), box(0, 9, 9, 1)), 1}, {leafOf(10, 10, box(1, 0, 9, 10), box(0, 1, 10, 9)), 1},
		{leafOf(most, most, box(0, 0, most, most)), 0}, {leafOf(most, most, box(0, 0, most, most-1)), most}, {leafOf(most, most, box(most-1, most-1, 1, 1)), most*most - 1},
	} {
		checkUsable(t, c.l, c.want)
		checkPromise10(t, c.l)
	}
}

func TestLargestClear(t *testing.T) {
	for _, c := range []struct {
		l    impl.Leaf
		want impl.Box
	}{
		// The example: two boxes are equally large.
		{leafOf(100, 100, box(40, 0, 20, 100)), box(0, 0, 40, 100)},
		// No defects.
		{leafOf(10, 10), box(0, 0, 10, 10)}, {leafOf(10, most), box(0, 0, 10, most)}, {leafOf(most, most), box(0, 0, most, most)},
		// The largest one on each of the four sides.
		{leafOf(100, 100, box(30, 0, 10, 100)), box(40, 0, 60, 100)}, {leafOf(100, 100, box(60, 0, 10, 100)), box(0, 0, 60, 100)}, {leafOf(100, 100, box(0, 30, 100, 10)), box(0, 40, 100, 60)}, {leafOf(100, 100, box(0, 60, 100, 10)), box(0, 0, 100, 60)},
		{leafOf(100, 100, box(99, 99, 1, 1)), box(0, 0, 99, 100)}, {leafOf(100, 100, box(0, 0, 1, 1)), box(0, 1, 100, 99)}, {leafOf(100, 100, box(0, 99, 1, 1)), box(0, 0, 100, 99)}, {leafOf(100, 100, box(99, 0, 1, 1)), box(0, 0, 99, 100)},
		// Ties: of X, then of Y, then of Width, where the Lengths differ too.
		{leafOf(10, 10, box(4, 0, 2, 10), box(0, 4, 10, 2)), box(0, 0, 4, 4)}, {leafOf(10, 10, box(0, 0, 4, 4), box(4, 0, 2, 10), box(0, 4, 10, 2)), box(0, 6, 4, 4)}, {leafOf(10, 10, box(0, 0, 4, 10), box(4, 0, 2, 10), box(0, 4, 10, 2)), box(6, 0, 4, 4)},
		{leafOf(10, 12, box(0, 5, 10, 2)), box(0, 0, 10, 5)}, {leafOf(20, 10, box(10, 5, 10, 5)), box(0, 0, 10, 10)}, {leafOf(10, 10, box(5, 5, 5, 5)), box(0, 0, 5, 10)}, {leafOf(10, 10, box(0, 0, 5, 5)), box(0, 5, 10, 5)},
		// Defects that overlap: a frame, a cross, a stair, one within the other, and the same one several times.
		{leafOf(10, 10, box(0, 0, 10, 4), box(0, 6, 10, 4), box(0, 0, 4, 10), box(6, 0, 4, 10)), box(4, 4, 2, 2)}, {leafOf(50, 40, box(0, 10, 50, 5), box(10, 0, 5, 40)), box(15, 15, 35, 25)}, {leafOf(12, 12, box(0, 0, 8, 4), box(0, 0, 4, 8)), box(4, 4, 8, 8)}, {leafOf(12, 12, box(0, 0, 9, 4), box(0, 0, 6, 8)), box(0, 8, 12, 4)}, {leafOf(12, 12, box(0, 0, 6, 3), box(0, 0, 3, 6)), box(3, 3, 9, 9)},
		{leafOf(50, 40, box(0, 0, 20, 20), box(5, 5, 3, 3)), box(20, 0, 30, 40)}, {leafOf(50, 40, slices.Repeat([]impl.Box{box(20, 0, 3, 40)}, 6)...), box(23, 0, 27, 40)},
		// A clear box that is left between the defects, away from all edges, and one of a single square.
		{leafOf(10, 10, box(0, 0, 10, 3), box(0, 5, 10, 5), box(0, 0, 7, 10), box(9, 0, 1, 10)), box(7, 3, 2, 2)}, {leafOf(10, 10, box(0, 0, 10, 9), box(0, 9, 9, 1)), box(9, 9, 1, 1)}, {leafOf(10, 10, box(1, 0, 9, 10), box(0, 1, 10, 9)), box(0, 0, 1, 1)},
		// Nothing is left.
		{leafOf(10, 10, box(0, 0, 10, 10)), impl.Box{}}, {leafOf(10, 12, box(0, 0, 6, 12), box(5, 0, 5, 12)), impl.Box{}}, {leafOf(10, 10, box(0, 0, 5, 5), box(5, 0, 5, 5), box(0, 5, 5, 5), box(5, 5, 5, 5)), impl.Box{}}, {leafOf(most, most, box(0, 0, most, most)), impl.Box{}}, {leafOf(10, 10, slices.Repeat([]impl.Box{box(0, 0, 10, 10)}, 6)...), impl.Box{}},
		// At the limits.
		{leafOf(most, most, box(0, 0, most, most-1)), box(0, most-1, most, 1)}, {leafOf(most, most, box(most/2, 0, 1, most), box(0, most/2, most, 1)), box(0, 0, most/2, most/2)},
		{leafOf(most, most, box(most-1, most-1, 1, 1), box(0, 0, 1, 1), box(0, most-1, 1, 1), box(most-1, 0, 1, 1), box(most/2, 0, 1, most), box(0, most/2, most, 1)), box(0, 1, most/2, most/2-1)},
	} {
		checkLargest(t, c.l, c.want)
		checkPromise10(t, c.l)
		if largestByLines(c.l) != c.want {
			t.Fatalf("%v is not the largest clear box of %v by the lines", c.want, c.l)
		}
	}
}

// TestClearBySquares looks at all squares and all boxes of small leaves.
func TestClearBySquares(t *testing.T) {
	covered, tied := 0, 0
	for seed := range 6000 {
		l := smallLeaf(seed)
		want := largestBySquares(l)
		checkUsable(t, l, usableBySquares(l))
		checkLargest(t, l, want)
		checkPromise10(t, l)
		if want == (impl.Box{}) {
			covered++
		}
		// The mirrored leaf has another first one if there are several.
		mirrored := changedLeaf(l, func(l *impl.Leaf) {
			for k, d := range l.Defects {
				l.Defects[k].X = l.Width - d.X - d.Width
			}
		})
		back, _ := impl.LargestClear(mirrored)
		if back.X = l.Width - back.X - back.Width; want != (impl.Box{}) && back != want {
			tied++
		}
	}
	if covered < 20 || tied < 100 {
		t.Errorf("only %d leaves are covered, and %d have several largest boxes", covered, tied)
	}
}

// TestClearByLines looks at all boxes between the sides of defects of leaves at the limit.
func TestClearByLines(t *testing.T) {
	covered := 0
	for seed := range 3000 {
		l := farLeaf(seed)
		want := largestByLines(l)
		checkUsable(t, l, usableBySets(l))
		checkLargest(t, l, want)
		checkPromise10(t, l)
		if want == (impl.Box{}) {
			covered++
		}
	}
	if covered < 20 {
		t.Errorf("only %d leaves are covered", covered)
	}
}

// TestDefectsInAnyOrder has the same defects in another order, and some of them twice: nothing but the indices changes.
func TestDefectsInAnyOrder(t *testing.T) {
	for seed := range 600 {
		l := smallLeaf(seed)
		area, _ := impl.UsableArea(l)
		b, _ := impl.LargestClear(l)
		for range len(l.Defects) {
			l.Defects = append(l.Defects[1:len(l.Defects):len(l.Defects)], l.Defects[0])
			checkUsable(t, l, area)
			checkLargest(t, l, b)
		}
		slices.Reverse(l.Defects)
		checkUsable(t, l, area)
		if n := len(l.Defects); n > 0 {
			l.Defects = slices.Concat(l.Defects, l.Defects)[:min(2*n, impl.MaxDefects)]
			checkUsable(t, l, area)
			checkLargest(t, l, b)
		}
	}
}

// TestGoodLeavesAreClear is promise 10 for leaves at each limit.
func TestGoodLeavesAreClear(t *testing.T) {
	for _, l := range goodLeaves() {
		checkPromise10(t, l)
		checkUsable(t, l, usableBySets(l))
		checkLargest(t, l, largestByLines(l))
	}
}
