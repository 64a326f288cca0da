package tests

import (
	"math"
	"slices"
	"testing"

	"loop.example/g00956/impl"
)

func TestLimitsOfMatching(t *testing.T) {
	if impl.OtherFlitch != 500 || impl.FarNumber != 20 {
		t.Errorf("limits %d, %d", impl.OtherFlitch, impl.FarNumber)
	}
}

func checkMirrored(t *testing.T, l, want impl.Leaf) {
	t.Helper()
	got, code := impl.MirrorLeaf(l)
	if !sameLeaves(got, want) || code != impl.OK || !impl.ValidLeaf(got) {
		t.Fatalf("MirrorLeaf(%v) is %v, %d, want %v", l, got, code, want)
	}
	if back, code := impl.MirrorLeaf(got); !sameLeaves(back, l) || code != impl.OK {
		t.Fatalf("%v turned over twice is %v, %d", l, back, code)
	}
}

func TestMirrorLeaf(t *testing.T) {
	for _, c := range []struct{ defects, want []impl.Box }{
		{nil, nil}, {[]impl.Box{box(10, 5, 20, 30)}, []impl.Box{box(70, 5, 20, 30)}}, {[]impl.Box{box(0, 0, 1, 1)}, []impl.Box{box(99, 0, 1, 1)}}, {[]impl.Box{box(99, 49, 1, 1)}, []impl.Box{box(0, 49, 1, 1)}}, {[]impl.Box{box(0, 3, 30, 4)}, []impl.Box{box(70, 3, 30, 4)}}, {[]impl.Box{box(60, 3, 40, 4)}, []impl.Box{box(0, 3, 40, 4)}},
		{[]impl.Box{box(0, 0, 100, 50)}, []impl.Box{box(0, 0, 100, 50)}}, {[]impl.Box{box(0, 7, 100, 1)}, []impl.Box{box(0, 7, 100, 1)}}, {[]impl.Box{box(40, 0, 20, 5)}, []impl.Box{box(40, 0, 20, 5)}},
		// The order stays, also that of equal defects and of those that overlap.
		{[]impl.Box{box(0, 1, 10, 2), box(80, 3, 20, 4), box(5, 5, 5, 5), box(5, 5, 5, 5), box(1, 0, 98, 50), box(0, 0, 99, 50)}, []impl.Box{box(90, 1, 10, 2), box(0, 3, 20, 4), box(90, 5, 5, 5), box(90, 5, 5, 5), box(1, 0, 98, 50), box(1, 0, 99, 50)}},
	} {
		checkMirrored(t, leafOf(100, 50, c.defects...), leafOf(100, 50, c.want...))
	}
	for _, c := range [][2]int64{{0, 0}, {1, 179}, {2, 178}, {45, 135}, {89, 91}, {90, 90}, {91, 89}, {135, 45}, {178, 2}, {179, 1}} {
		l := leafOf(10, most, box(9, most-1, 1, 1))
		l.Veneer.Grain = c[0]
		want := leafOf(10, most, box(0, most-1, 1, 1))
		want.Veneer.Grain = c[1]
		checkMirrored(t, l, want)
	}
	checkMirrored(t, leafOf(most, most, box(0, 0, 1, most), box(0, 0, most-1, 1)), leafOf(most, most, box(most-1, 0, 1, most), box(1, 0, most-1, 1)))
	for _, l := range goodLeaves() {
		checkMirrored(t, l, mirrorAsTold(l))
	}
	for grain := range int64(impl.HalfTurn) {
		l := changedLeaf(givenLeaves()[1], func(l *impl.Leaf) { l.Veneer.Grain = grain })
		checkMirrored(t, l, mirrorAsTold(l))
	}
}

// TestDefectsLieOnTheOtherSide compares all squares of a leaf from left to right with those of the leaf turned over from right to left.
func TestDefectsLieOnTheOtherSide(t *testing.T) {
	for seed := range 100 {
		l := smallLeaf(seed)
		m, _ := impl.MirrorLeaf(l)
		here, there := spots(l), spots(m)
		slices.Reverse(there)
		if !slices.EqualFunc(here, there, slices.Equal) {
			t.Fatalf("%v turned over is %v", l, m)
		}
		area, _ := impl.UsableArea(l)
		if mirrored, _ := impl.UsableArea(m); mirrored != area {
			t.Fatalf("%v has the area %d, and turned over %d", l, area, mirrored)
		}
	}
}

// checkScore calls in both orders.
func checkScore(t *testing.T, a, b impl.Leaf, book bool, want int64) {
	t.Helper()
	there, code := impl.MatchScore(a, b, book)
	back, backCode := impl.MatchScore(b, a, book)
	if there != want || back != want || code != impl.OK || backCode != impl.OK {
		t.Fatalf("MatchScore(%v, %v, %v) is %d, %d, and in the other order %d, %d, want %d", a, b, book, there, code, back, backCode, want)
	}
}

// TestMatchScore changes one leaf of two equal ones, which have the grain 30.
func TestMatchScore(t *testing.T) {
	base := leafOf(50, 40, box(1, 2, 3, 4))
	base.Number, base.Veneer.Grain = 100, 30
	for what, c := range map[string]struct {
		change     func(l *impl.Leaf)
		slip, book int64
	}{
		"nothing": {func(l *impl.Leaf) {}, 0, 60},
		// The Id, the size and the defects make no difference.
		"Id": {func(l *impl.Leaf) { l.Id = "z" }, 0, 60}, "Width": {func(l *impl.Leaf) { l.Width = most }, 0, 60}, "Length": {func(l *impl.Leaf) { l.Length = 10 }, 0, 60}, "Defects": {func(l *impl.Leaf) { l.Defects = nil }, 0, 60},
		"Shade and 1": {func(l *impl.Leaf) { l.Veneer.Shade++ }, 3, 63}, "Shade less 1": {func(l *impl.Leaf) { l.Veneer.Shade-- }, 3, 63}, "Shade and 15": {func(l *impl.Leaf) { l.Veneer.Shade += 15 }, 45, 105}, "Shade less 15": {func(l *impl.Leaf) { l.Veneer.Shade -= 15 }, 45, 105},
		"Grain 0": {func(l *impl.Leaf) { l.Veneer.Grain = 0 }, 30, 30}, "Grain 31": {func(l *impl.Leaf) { l.Veneer.Grain = 31 }, 1, 61}, "Grain 60": {func(l *impl.Leaf) { l.Veneer.Grain = 60 }, 30, 90}, "Grain 90": {func(l *impl.Leaf) { l.Veneer.Grain = 90 }, 60, 60},
		"Grain 120": {func(l *impl.Leaf) { l.Veneer.Grain = 120 }, 90, 30}, "Grain 150": {func(l *impl.Leaf) { l.Veneer.Grain = 150 }, 60, 0}, "Grain 151": {func(l *impl.Leaf) { l.Veneer.Grain = 151 }, 59, 1}, "Grain 179": {func(l *impl.Leaf) { l.Veneer.Grain = 179 }, 31, 29},
		"Number and 1": {func(l *impl.Leaf) { l.Number++ }, 1, 61}, "Number less 1": {func(l *impl.Leaf) { l.Number-- }, 1, 61}, "Number and 19": {func(l *impl.Leaf) { l.Number += 19 }, 19, 79}, "Number and 20": {func(l *impl.Leaf) { l.Number += 20 }, 20, 80}, "Number and 21": {func(l *impl.Leaf) { l.Number += 21 }, 20, 80},
		"Number less 20": {func(l *impl.Leaf) { l.Number -= 20 }, 20, 80}, "Number less 21": {func(l *impl.Leaf) { l.Number -= 21 }, 20, 80}, "Number 0": {func(l *impl.Leaf) { l.Number = 0 }, 20, 80}, "Number 999": {func(l *impl.Leaf) { l.Number = 999 }, 20, 80},
		"Flitch": {func(l *impl.Leaf) { l.Flitch = "g" }, 500, 560}, "longer Flitch": {func(l *impl.Leaf) { l.Flitch = "f0" }, 500, 560}, "Flitch and Number": {func(l *impl.Leaf) { l.Flitch, l.Number = "g", 101 }, 500, 560}, "Flitch and far Number": {func(l *impl.Leaf) { l.Flitch, l.Number = "g", 999 }, 500, 560},
		"Species": {func(l *impl.Leaf) { l.Veneer.Species = "beech" }, 500, 560}, "Species and Flitch": {func(l *impl.Leaf) { l.Veneer.Species, l.Flitch = "cherry", "g" }, 1000, 1060}, "Species and Number": {func(l *impl.Leaf) { l.Veneer.Species, l.Number = "beech", 103 }, 503, 563},
		"all": {func(l *impl.Leaf) { l.Veneer, l.Flitch, l.Number = veneer("ebony", 100, 120), "g", 0 }, 180 + 90 + 1000, 180 + 30 + 1000},
	} {
		t.Log(what)
		checkScore(t, base, changedLeaf(base, c.change), false, c.slip)
		checkScore(t, base, changedLeaf(base, c.change), true, c.book)
	}
	near, far := leafOf(10, 10), leafOf(10, 10)
	far.Number = impl.MaxNumber
	checkScore(t, near, far, false, 20)
	far.Flitch, far.Veneer, near.Veneer = "g", veneer("ebony", 100, 90), veneer("holly", 0, 0)
	checkScore(t, near, far, true, 300+90+1000)
}

// TestExampleOfMatching has the Numbers 3 and 4 and equal veneers with the grain 0.
func TestExampleOfMatching(t *testing.T) {
	list := numberedLeaves(3, 4)
	checkScore(t, list[0], list[1], false, 1)
	checkScore(t, list[0], list[1], true, 1)
	for _, book := range []bool{false, true} {
		if k, score, code := impl.BestMatch(list, 0, book); k != 1 || score != 1 || code != impl.OK {
			t.Errorf("BestMatch is %d, %d, %d", k, score, code)
		}
	}
}

// TestBookMatchedGrains has all pairs of some directions, and each direction with 0 and 90, at which turning over changes nothing.
func TestBookMatchedGrains(t *testing.T) {
	a, b := leafOf(10, 10), leafOf(10, 10)
	check := func(first, second int64) {
		a.Veneer.Grain, b.Veneer.Grain = first, second
		checkScore(t, a, b, false, angleAsTold(first, second))
		checkScore(t, a, b, true, angleAsTold(first, (180-second)%180))
	}
	for first := range int64(180) {
		check(first, 0)
		check(first, 90)
		check(first, first)
		check(first, 179-first)
		check(first, (first*7+11)%180)
		a.Veneer.Grain, b.Veneer.Grain = first, (180-first)%180
		checkScore(t, a, b, true, 0)
		for _, still := range []int64{0, 90} {
			b.Veneer.Grain = still
			slip, _ := impl.MatchScore(a, b, false)
			checkScore(t, a, b, true, slip)
		}
	}
}

// TestScoresAreAsTold also turns over one leaf, and calls without book.
func TestScoresAreAsTold(t *testing.T) {
	good := goodLeaves()
	for i, a := range good {
		for _, b := range append(good[i%40:i%40+12:i%40+12], good[i], good[(i+1)%len(good)]) {
			checkScore(t, a, b, false, scoreAsTold(a, b, false))
			checkScore(t, a, b, true, scoreAsTold(a, b, true))
			m, _ := impl.MirrorLeaf(b)
			checkScore(t, a, m, false, scoreAsTold(a, b, true))
			checkScore(t, a, m, true, scoreAsTold(a, b, false))
		}
	}
}

func checkMatch(t *testing.T, list []impl.Leaf, k int64, book bool, want, wantScore, wantCode int64) {
	t.Helper()
	if got, score, code := impl.BestMatch(list, k, book); got != want || score != wantScore || code != wantCode {
		t.Fatalf("BestMatch(%v, %d, %v) is %d, %d, %d, want %d, %d, %d", list, k, book, got, score, code, want, wantScore, wantCode)
	}
}

func TestBestMatch(t *testing.T) {
	for _, c := range []struct {
		numbers        []int64
		k, want, score int64
	}{
		{[]int64{3, 4, 7}, 0, 1, 1}, {[]int64{3, 4, 7}, 1, 0, 1}, {[]int64{3, 4, 7}, 2, 1, 3}, {[]int64{3, 7, 4}, 0, 2, 1}, {[]int64{3, 7, 4}, 1, 2, 3}, {[]int64{5, 5}, 0, 1, 0}, {[]int64{5, 5}, 1, 0, 0},
		// Ties: the first leaf, but never the leaf itself.
		{[]int64{5, 5, 5}, 0, 1, 0}, {[]int64{5, 5, 5}, 1, 0, 0}, {[]int64{5, 5, 5}, 2, 0, 0}, {[]int64{4, 6, 5}, 2, 0, 1}, {[]int64{6, 4, 5}, 2, 0, 1}, {[]int64{5, 6, 4}, 0, 1, 1}, {[]int64{5, 4, 6}, 0, 1, 1}, {[]int64{6, 5, 4}, 1, 0, 1}, {[]int64{9, 6, 5, 4}, 2, 1, 1},
		{[]int64{100, 0, 999}, 0, 1, 20}, {[]int64{0, 999, 100}, 2, 0, 20}, {[]int64{0, 999, 100}, 0, 1, 20}, {[]int64{0, 999}, 1, 0, 20},
	} {
		checkMatch(t, numberedLeaves(c.numbers...), c.k, false, c.want, c.score, impl.OK)
		checkMatch(t, numberedLeaves(c.numbers...), c.k, true, c.want, c.score, impl.OK)
	}
	// Turned over, another leaf matches.
	list := changedLeaves(numberedLeaves(3, 4, 5), func(list []impl.Leaf) {
		list[0].Veneer.Grain, list[1].Veneer.Grain, list[2].Veneer.Grain = 30, 30, 150
	})
	checkMatch(t, list, 0, false, 1, 1, impl.OK)
	checkMatch(t, list, 0, true, 2, 2, impl.OK)
	checkMatch(t, list, 1, true, 2, 1, impl.OK)
	checkMatch(t, list, 2, false, 1, 61, impl.OK)
	checkMatch(t, list, 2, true, 1, 1, impl.OK)
	// Each other leaf is of another flitch and another species.
	far := []impl.Leaf{leafOf(10, 10), leafOf(10, 10)}
	far[0].Veneer, far[1].Id, far[1].Flitch, far[1].Veneer = veneer("holly", 0, 0), "b", "g", veneer("ebony", 100, 90)
	checkMatch(t, far, 0, false, 1, 1390, impl.OK)
	checkMatch(t, far, 1, true, 0, 1390, impl.OK)
}

func TestBestMatchesAreAsTold(t *testing.T) {
	for n := 2; n <= impl.MaxLeaves; n++ {
		for seed := range 12 {
			list, book := pairedLeaves(seed, n), (seed+n)%2 == 0
			scores := scoresAsTold(list, book)
			for k := range n {
				want, score := matchAsTold(scores, k)
				checkMatch(t, list, int64(k), book, want, score, impl.OK)
			}
		}
	}
}

func TestBestMatchRefuses(t *testing.T) {
	for n := range 17 {
		list := leavesOf(n)
		for _, book := range []bool{false, true} {
			for _, k := range append(noIndices(n), math.MinInt64+int64(n), math.MaxInt64-int64(n)) {
				checkMatch(t, list, k, book, 0, 0, impl.ErrRange)
			}
		}
	}
	for _, k := range []int64{0, 1, -1} {
		checkMatch(t, nil, k, false, 0, 0, impl.ErrRange)
		checkMatch(t, []impl.Leaf{}, k, true, 0, 0, impl.ErrRange)
	}
	for _, l := range goodLeaves() {
		checkMatch(t, []impl.Leaf{l}, 0, false, 0, 0, impl.ErrNotFound)
		checkMatch(t, []impl.Leaf{l}, 0, true, 0, 0, impl.ErrNotFound)
		checkMatch(t, []impl.Leaf{l}, 1, true, 0, 0, impl.ErrRange)
	}
}

func TestInvalidLeavesHaveNoScore(t *testing.T) {
	good := leafOf(10, 10)
	forBadLeaves(func(reason string, l impl.Leaf) {
		if m, code := impl.MirrorLeaf(l); !isZeroLeaf(m) || code != impl.ErrInvalid {
			t.Errorf("%s: MirrorLeaf is %v, %d", reason, m, code)
		}
		for _, pair := range [][2]impl.Leaf{{l, good}, {good, l}, {l, l}} {
			for _, book := range []bool{false, true} {
				if score, code := impl.MatchScore(pair[0], pair[1], book); score != 0 || code != impl.ErrInvalid {
					t.Errorf("%s: MatchScore is %d, %d", reason, score, code)
				}
			}
		}
	})
}
