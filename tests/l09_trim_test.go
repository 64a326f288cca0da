package tests

import (
	"testing"

	"loop.example/g00956/impl"
)

// trimmedAsTold is for boxes that lie within the leaf.
func trimmedAsTold(l impl.Leaf, b impl.Box) impl.Leaf {
	part := l
	part.Width, part.Length, part.Defects = b.Width, b.Length, nil
	for _, d := range l.Defects {
		if common, area := overlap(l.Width, l.Length, d, b); area > 0 {
			part.Defects = append(part.Defects, box(common.X-b.X, common.Y-b.Y, common.Width, common.Length))
		}
	}
	return part
}

func checkTrim(t *testing.T, l impl.Leaf, b impl.Box, want impl.Leaf, wantCode int64) {
	t.Helper()
	got, code := impl.TrimLeaf(l, b)
	if !sameLeaves(got, want) || code != wantCode {
		t.Fatalf("TrimLeaf(%v, %v) is %v, %d, want %v, %d", l, b, got, code, want, wantCode)
	}
	if code == impl.OK && !impl.ValidLeaf(got) {
		t.Fatalf("TrimLeaf(%v, %v) is %v, which is not valid", l, b, got)
	}
}

func TestTrimLeaf(t *testing.T) {
	given := givenLeaves()[0]
	part := given
	part.Width, part.Length, part.Defects = 50, 100, []impl.Box{box(10, 0, 20, 100)}
	checkTrim(t, given, box(30, 10, 50, 100), part, impl.OK)
	checkTrim(t, given, box(0, 0, 9, 100), impl.Leaf{}, impl.ErrState)
	checkTrim(t, given, box(0, 0, 101, 5), impl.Leaf{}, impl.ErrRange)
	// One defect at a time, and the part from 20, 30 to 50, 70.
	b := box(20, 30, 30, 40)
	for _, c := range []struct {
		defect impl.Box
		want   []impl.Box
	}{
		// Within, at each edge from the inside, and all of the part.
		{box(25, 35, 5, 6), []impl.Box{box(5, 5, 5, 6)}}, {box(20, 30, 30, 40), []impl.Box{box(0, 0, 30, 40)}}, {box(20, 40, 1, 1), []impl.Box{box(0, 10, 1, 1)}}, {box(49, 40, 1, 1), []impl.Box{box(29, 10, 1, 1)}}, {box(30, 30, 1, 1), []impl.Box{box(10, 0, 1, 1)}}, {box(30, 69, 1, 1), []impl.Box{box(10, 39, 1, 1)}}, {box(0, 0, 100, 100), []impl.Box{box(0, 0, 30, 40)}},
		// Cut at each side, at each corner, and at two opposite sides.
		{box(10, 40, 15, 5), []impl.Box{box(0, 10, 5, 5)}}, {box(45, 40, 15, 5), []impl.Box{box(25, 10, 5, 5)}}, {box(30, 20, 5, 15), []impl.Box{box(10, 0, 5, 5)}}, {box(30, 65, 5, 15), []impl.Box{box(10, 35, 5, 5)}}, {box(10, 20, 11, 12), []impl.Box{box(0, 0, 1, 2)}}, {box(48, 20, 11, 12), []impl.Box{box(28, 0, 2, 2)}},
		{box(10, 67, 12, 12), []impl.Box{box(0, 37, 2, 3)}}, {box(49, 69, 12, 12), []impl.Box{box(29, 39, 1, 1)}}, {box(0, 50, 100, 2), []impl.Box{box(0, 20, 30, 2)}}, {box(40, 0, 3, 100), []impl.Box{box(20, 0, 3, 40)}},
		// It only touches the part at a side or at a corner.
		{box(10, 40, 10, 5), nil}, {box(50, 40, 10, 5), nil}, {box(30, 20, 5, 10), nil}, {box(30, 70, 5, 10), nil}, {box(10, 20, 10, 10), nil}, {box(50, 70, 10, 10), nil}, {box(10, 70, 10, 10), nil}, {box(50, 20, 10, 10), nil}, {box(0, 0, 20, 100), nil}, {box(50, 0, 50, 100), nil}, {box(0, 0, 100, 30), nil}, {box(0, 70, 100, 30), nil},
		// Outside.
		{box(0, 0, 5, 5), nil}, {box(60, 40, 5, 5), nil}, {box(30, 80, 5, 5), nil}, {box(90, 90, 10, 10), nil}, {box(5, 40, 5, 5), nil}, {box(30, 5, 5, 5), nil},
	} {
		want := leafOf(30, 40, c.want...)
		checkTrim(t, leafOf(100, 100, c.defect), b, want, impl.OK)
		// All defects keep their order, also if some are left out.
		other := box(21, 31, 1, 1)
		checkTrim(t, leafOf(100, 100, other, c.defect, box(0, 0, 1, 1), other), b, leafOf(30, 40, append(append([]impl.Box{box(1, 1, 1, 1)}, c.want...), box(1, 1, 1, 1))...), impl.OK)
		checkTrim(t, leafOf(100, 100, box(0, 0, 1, 1), c.defect, other), b, leafOf(30, 40, append(append([]impl.Box{}, c.want...), box(1, 1, 1, 1))...), impl.OK)
	}
}

// TestTrimLeafKeepsNames also has the box of the whole leaf, which leads to the leaf itself.
func TestTrimLeafKeepsNames(t *testing.T) {
	for _, l := range goodLeaves() {
		checkTrim(t, l, box(0, 0, l.Width, l.Length), l, impl.OK)
		for _, b := range []impl.Box{box(0, 0, 10, 10), box(l.Width-10, l.Length-10, 10, 10), box((l.Width-10)/2, 0, 10, l.Length), box(0, (l.Length-10)/3, l.Width, 10)} {
			checkTrim(t, l, b, trimmedAsTold(l, b), impl.OK)
			twice, _ := impl.TrimLeaf(l, b)
			checkTrim(t, twice, box(0, 0, b.Width, b.Length), twice, impl.OK)
		}
	}
}

func TestTrimLeafRefuses(t *testing.T) {
	for _, l := range []impl.Leaf{leafOf(50, 40, box(5, 5, 10, 10)), leafOf(10, 10), leafOf(most, most, box(0, 0, most, most)), leafOf(10, most), leafOf(most, 10)} {
		for _, b := range boxesBeyond(l.Width, l.Length) {
			checkTrim(t, l, b, impl.Leaf{}, impl.ErrRange)
		}
		for _, b := range []impl.Box{box(0, 0, 9, 10), box(0, 0, 10, 9), box(0, 0, 9, 9), box(0, 0, 1, l.Length), box(0, 0, l.Width, 1), box(l.Width-9, 0, 9, l.Length), box(0, l.Length-9, l.Width, 9), box(l.Width-1, l.Length-1, 1, 1)} {
			checkTrim(t, l, b, impl.Leaf{}, impl.ErrState)
		}
		// Too small, but not within the leaf either.
		for _, b := range []impl.Box{box(l.Width-8, 0, 9, 10), box(0, l.Length-8, 10, 9), box(-1, 0, 9, 9), box(0, 0, l.Width+1, 9), box(0, 0, 9, l.Length+1), box(0, 0, 0, 10)} {
			checkTrim(t, l, b, impl.Leaf{}, impl.ErrRange)
		}
		for _, b := range []impl.Box{box(0, 0, 10, 10), box(l.Width-10, l.Length-10, 10, 10), box(0, 0, 10, l.Length), box(0, 0, l.Width, 10)} {
			checkTrim(t, l, b, trimmedAsTold(l, b), impl.OK)
		}
	}
}

// TestTrimmedLeavesHaveTheirSpots tries all boxes of small leaves: each square keeps its defects.
func TestTrimmedLeavesHaveTheirSpots(t *testing.T) {
	for seed := range 300 {
		l := smallLeaf(seed)
		columns := spots(l)
		for x := range l.Width + 1 {
			for y := range l.Length + 1 {
				for width := l.Width - x - 1; width <= l.Width-x+1; width++ {
					for length := int64(9); length <= l.Length-y+1; length++ {
						checkPart(t, l, box(x, y, width, length), columns)
					}
				}
			}
		}
	}
}

func checkPart(t *testing.T, l impl.Leaf, b impl.Box, columns [][]int64) {
	t.Helper()
	switch {
	case !withinAsTold(b, l.Width, l.Length):
		checkTrim(t, l, b, impl.Leaf{}, impl.ErrRange)
		return
	case b.Width < 10 || b.Length < 10:
		checkTrim(t, l, b, impl.Leaf{}, impl.ErrState)
		return
	}
	checkTrim(t, l, b, trimmedAsTold(l, b), impl.OK)
	part, _ := impl.TrimLeaf(l, b)
	for x, column := range spots(part) {
		for y, k := range column {
			if (k < 0) != (columns[b.X+int64(x)][b.Y+int64(y)] < 0) {
				t.Fatalf("TrimLeaf(%v, %v) is %v, which is wrong at %d, %d", l, b, part, x, y)
			}
		}
	}
	checkPromise10(t, part)
}
