package tests

import (
	"fmt"
	"math"
	"slices"
	"testing"

	"loop.example/g00956/impl"
)

// leafArguments are those of all functions of chapter 9.
type leafArguments struct {
	a, b     impl.Box
	l, other impl.Leaf
	list     []impl.Leaf
	x, y     int64
	s        string
}

// leafResults calls every function of chapter 9.
func leafResults(a leafArguments) string {
	at, atCode := impl.DefectAt(a.l, a.x, a.y)
	area, areaCode := impl.UsableArea(a.l)
	clear, clearCode := impl.LargestClear(a.l)
	leaves, leavesCode := impl.LeavesOf(a.list, a.s)
	flitch, flitchCode := impl.FlitchOf(a.list, a.s)
	added, addedCode := impl.AddLeaf(a.list, a.l)
	dropped, droppedCode := impl.DropLeaf(a.list, a.s)
	trimmed, trimmedCode := impl.TrimLeaf(a.l, a.a)
	read, ok := impl.ReadLeaf(a.s)
	text := fmt.Sprint(impl.BoxesMeet(a.a, a.b), impl.ValidLeaf(a.l), impl.ValidLeaves(a.list), impl.SameLeaf(a.l, a.other), impl.SameLeaf(a.other, a.l), at, atCode, area, areaCode, clear, clearCode)
	return text + fmt.Sprint(leaves, leavesCode, flitch, flitchCode, added, addedCode, dropped, droppedCode, trimmed, trimmedCode, impl.LeafText(a.l), read, ok)
}

// leafWithSpare is a copy with marks behind its defects.
func leafWithSpare(l impl.Leaf) impl.Leaf {
	marks := slices.Repeat([]impl.Box{box(-7, math.MinInt64, 77, -77)}, 12)
	l.Defects = append(slices.Clone(l.Defects), marks...)[:len(l.Defects)]
	return l
}

// leavesWithSpare is a copy with marks behind all slices.
func leavesWithSpare(list []impl.Leaf) []impl.Leaf {
	var spare []impl.Leaf
	for _, l := range list {
		spare = append(spare, leafWithSpare(l))
	}
	mark := impl.Leaf{Id: "mark", Flitch: "mark", Number: -7, Defects: []impl.Box{box(7, 7, 7, 7)}}
	return append(spare, slices.Repeat([]impl.Leaf{mark}, 20)...)[:len(list)]
}

// allOfLeaves writes down all that the slices of leaves hold, also behind their ends.
func allOfLeaves(list []impl.Leaf) string {
	text := ""
	for _, l := range list[:cap(list)] {
		text += fmt.Sprint(l, len(l.Defects), l.Defects[:cap(l.Defects)])
	}
	return text
}

// fillLeaves writes into all memory of leaves.
func fillLeaves(list []impl.Leaf, mark int64) {
	for k, l := range list[:cap(list)] {
		fillBoxes(l.Defects, mark)
		list[:cap(list)][k] = impl.Leaf{Id: "changed", Number: mark}
	}
}

func fillBoxes(boxes []impl.Box, mark int64) {
	for k := range boxes[:cap(boxes)] {
		boxes[:cap(boxes)][k] = box(mark, mark, mark, mark)
	}
}

func defectsOf(list []impl.Leaf) [][]impl.Box {
	var all [][]impl.Box
	for _, l := range list {
		all = append(all, l.Defects)
	}
	return all
}

// checkSameLeavesAgain calls with arguments that have marks behind their slices, and with copies that have none.
func checkSameLeavesAgain(t *testing.T, a leafArguments) {
	t.Helper()
	spare, copies := a, a
	spare.l, spare.other, spare.list = leafWithSpare(a.l), leafWithSpare(a.other), leavesWithSpare(a.list)
	whole := func() string { return allOfLeaves([]impl.Leaf{spare.l, spare.other}) + allOfLeaves(spare.list) }
	before := whole()
	copies.l, copies.other, copies.list = copyOfLeaf(a.l), copyOfLeaf(a.other), copyOfLeaves(a.list)
	first := leafResults(spare)
	second := leafResults(copies)
	third := leafResults(spare)
	if first != second || first != third {
		t.Fatalf("%.500v: %.500s and then %.500s and %.500s", fmt.Sprint(a), first, second, third)
	}
	if before != whole() {
		t.Fatalf("%.500v: an argument or what lies behind a slice is changed", fmt.Sprint(a))
	}
}

// forPlentyOfLeaves calls check with leaves and lists of all kinds, and with the number of the call.
func forPlentyOfLeaves(check func(n int, l impl.Leaf, list []impl.Leaf)) {
	good, n := goodLeaves(), 0
	call := func(l impl.Leaf, list []impl.Leaf) {
		n++
		check(n, l, list)
	}
	for k, l := range good {
		call(l, leavesOf(k%18))
		call(l, givenLeaves())
	}
	forBadLeaves(func(_ string, l impl.Leaf) {
		if len(l.Defects) < 1000 && n%3 == 0 {
			call(l, leavesOf(n%17))
		}
		n++
	})
	forBadLists(func(_ string, list []impl.Leaf) {
		if len(list) < 1000 && n%5 == 0 {
			call(good[n%len(good)], list)
		}
		n++
	})
}

func TestLeavesAreTheSameAgain(t *testing.T) {
	good := goodLeaves()
	forPlentyOfLeaves(func(n int, l impl.Leaf, list []impl.Leaf) {
		b := box(int64(n%3), int64(n%5), 10, 10)
		a := leafArguments{a: b, b: box(5, 5, int64(n%7), 5), l: l, other: good[n%len(good)], list: list, x: int64(n % 11), y: int64(n % 13), s: []string{"oak", "b", "f1", "c", "pine", "", impl.LeafText(l)}[n%7]}
		checkSameLeavesAgain(t, a)
		a.a, a.other, a.x, a.s = box(0, 0, l.Width, l.Length), l, -1, l.Id
		checkSameLeavesAgain(t, a)
	})
}

// TestFarNumbersInLeaves puts far numbers into each two numbers of boxes and leaves.
func TestFarNumbersInLeaves(t *testing.T) {
	far := append([]int64{9, 10, 50, 999, 1000}, farCoordinates...)
	for _, n := range far {
		for _, m := range far {
			l := leafOf(50, 40, box(5, 5, 10, 10), box(10, 10, 40, 30))
			list := givenLeaves()
			b := box(0, 0, 20, 20)
			places := []*int64{&l.Number, &l.Width, &l.Length, &l.Veneer.Shade, &l.Veneer.Grain, &l.Defects[0].X, &l.Defects[0].Y, &l.Defects[1].Width, &l.Defects[1].Length, &b.X, &b.Y, &b.Width, &b.Length, &list[0].Number, &list[1].Number, &list[0].Width, &list[1].Length, &list[1].Defects[0].X, &list[1].Defects[1].Width}
			for k, place := range places {
				next := places[(k+int(magnitudeOf(m%7))+1)%len(places)]
				kept, keptNext := *place, *next
				*place = n
				checkSameLeavesAgain(t, leafArguments{a: b, b: box(n, 0, m, 5), l: l, other: givenLeaves()[0], list: list, x: n, y: m, s: "f1"})
				*next = m
				checkSameLeavesAgain(t, leafArguments{a: b, b: box(0, m, 5, n), l: l, other: l, list: list, x: m, y: 0, s: "b"})
				*next, *place = keptNext, kept
			}
			checkReadLeaf(t, fmt.Sprintf("a/f/%d/oak 40 0/%dx%d/%d,%d,1,1", n&7, m, n, n, m))
			checkReadLeaf(t, fmt.Sprintf("a/f/0/oak 40 0/20000x20000/%d,0,%d,1", n, m))
			checkReadLeaf(t, fmt.Sprintf("a/f/%d/oak 40 %d/20000x20000", n, m))
		}
	}
}

func TestEveryLeafTextReturnsTheSameAgain(t *testing.T) {
	for k, s := range slices.Concat(oddTexts(), notDecimal, noSpecies(), noNames, goodTexts) {
		for _, text := range []string{s, "a/f/0/oak 40 0/" + s, "a/f/0/oak 40 0/100x100/" + s, s + "/f/0/oak 40 0/100x100"} {
			l := leafOf(10, 10)
			l.Id, l.Flitch, l.Veneer.Species = text, s, []string{"oak", s}[k%2]
			checkSameLeavesAgain(t, leafArguments{l: l, other: l, list: []impl.Leaf{l}, s: text})
			checkSameLeavesAgain(t, leafArguments{l: leafOf(10, 10), other: l, list: leavesOf(5), s: text})
		}
	}
}

func TestNilAndEmptyLeavesAreEquivalent(t *testing.T) {
	for _, base := range []impl.Leaf{{}, leafOf(10, 10), leafOf(9, 10)} {
		empty := base
		empty.Defects = []impl.Box{}
		for _, list := range [][2][]impl.Leaf{{nil, {}}, {{base}, {empty}}} {
			first := leafResults(leafArguments{l: base, other: empty, list: list[0], a: box(0, 0, 10, 10), s: "oak"})
			second := leafResults(leafArguments{l: empty, other: base, list: list[1], a: box(0, 0, 10, 10), s: "oak"})
			if first != second {
				t.Errorf("%s and then %s", first, second)
			}
		}
	}
}

// madeLeaves are the functions that return leaves.
var madeLeaves = map[string]func(list []impl.Leaf, l impl.Leaf, n int) ([]impl.Leaf, int64){
	"AddLeaf": func(list []impl.Leaf, l impl.Leaf, _ int) ([]impl.Leaf, int64) { return impl.AddLeaf(list, l) },
	"DropLeaf": func(list []impl.Leaf, _ impl.Leaf, n int) ([]impl.Leaf, int64) {
		return impl.DropLeaf(list, list[n].Id)
	},
	"TrimLeaf": func(list []impl.Leaf, _ impl.Leaf, n int) ([]impl.Leaf, int64) {
		l, code := impl.TrimLeaf(list[n], box(0, 0, 10, 10))
		return []impl.Leaf{l}, code
	},
	"the whole leaf": func(_ []impl.Leaf, l impl.Leaf, _ int) ([]impl.Leaf, int64) {
		l, code := impl.TrimLeaf(l, box(0, 0, l.Width, l.Length))
		return []impl.Leaf{l}, code
	},
	"ReadLeaf": func(_ []impl.Leaf, l impl.Leaf, _ int) ([]impl.Leaf, int64) {
		l, ok := impl.ReadLeaf(impl.LeafText(l))
		return []impl.Leaf{l}, map[bool]int64{false: impl.ErrSyntax}[ok]
	},
}

// TestMadeLeavesAreNewMemory writes into one result, and then into the arguments: the other results stay.
func TestMadeLeavesAreNewMemory(t *testing.T) {
	for what, made := range madeLeaves {
		for seed := range 120 {
			n := 1 + seed%15
			list := leavesWithSpare(leavesOf(n))
			l := smallLeaf(seed + 3)
			l.Id = []string{"a", "b0", "z", "h7"}[seed%4]
			l = leafWithSpare(l)
			before := allOfLeaves(list) + allOfLeaves([]impl.Leaf{l})
			kept, code := made(list, l, seed%n)
			want := allOfLeaves(kept)
			other, _ := made(list, l, seed%n)
			again, _ := made(list, l, seed%n)
			if code != impl.OK || !staysApart(defectsOf(again), func(k int) impl.Box { return box(int64(k), -1, -1, -1) }) {
				t.Fatalf("%s: two leaves of a result for %v share memory, or the code is %d", what, list, code)
			}
			fillLeaves(other, -7)
			again, _ = made(list, l, seed%n)
			if allOfLeaves(list)+allOfLeaves([]impl.Leaf{l}) != before || allOfLeaves(kept) != want || !sameLeaves(again, kept) {
				t.Fatalf("%s: the result for %v and %v shares memory with them or with another one", what, list, l)
			}
			fillBoxes(l.Defects, -8)
			fillLeaves(list, -9)
			if allOfLeaves(kept) != want {
				t.Fatalf("%s: the result for %v and %v changes with them", what, list, l)
			}
		}
	}
}

// TestIndicesOfLeavesAreNewMemory writes over one result.
func TestIndicesOfLeavesAreNewMemory(t *testing.T) {
	for what, indices := range map[string]func(list []impl.Leaf) ([]int64, int64){
		"LeavesOf": func(list []impl.Leaf) ([]int64, int64) { return impl.LeavesOf(list, "ash") },
		"FlitchOf": func(list []impl.Leaf) ([]int64, int64) { return impl.FlitchOf(list, "f0") },
	} {
		for n := 1; n <= 16; n++ {
			list := leavesWithSpare(leavesOf(n))
			before := allOfLeaves(list)
			kept, code := indices(list)
			want := slices.Clone(kept)
			other, _ := indices(list)
			for k := range other[:cap(other)] {
				other[:cap(other)][k] = -7
			}
			again, _ := indices(list)
			if !slices.Equal(kept, want) || !slices.Equal(again, want) || allOfLeaves(list) != before || len(want) == 0 || code != impl.OK {
				t.Errorf("%s: %v and %v after another result was changed, want %v", what, kept, again, want)
			}
		}
	}
}

// TestDefectsMayShareMemory has leaves whose defects lie in one list, one behind the other, one within the other, and twice.
func TestDefectsMayShareMemory(t *testing.T) {
	boxes := []impl.Box{box(0, 0, 3, 3), box(1, 1, 5, 5), box(4, 0, 1, 10), box(0, 7, 10, 1), box(9, 9, 1, 1), box(0, 0, 1, 10)}
	kept := slices.Clone(boxes)
	list := leavesOf(6)
	for k, part := range [][]impl.Box{boxes, boxes[:3], boxes[:3], boxes[2:5], boxes[5:], boxes[:0]} {
		list[k].Width, list[k].Length, list[k].Defects = 10, 10, part
	}
	l := leafOf(10, 10, boxes[1:4]...)
	l.Defects = boxes[1:4]
	if !impl.ValidLeaves(list) {
		t.Fatalf("%v is valid", list)
	}
	copies := copyOfLeaves(list)
	for _, s := range []string{"b", "d", "g", "f0", "oak"} {
		for k := range list {
			first := leafResults(leafArguments{l: list[k], other: l, list: list, a: box(0, 0, 10, 10), s: s})
			second := leafResults(leafArguments{l: copies[k], other: copyOfLeaf(l), list: copies, a: box(0, 0, 10, 10), s: s})
			if first != second || !slices.Equal(boxes, kept) {
				t.Fatalf("%s, and with copies %s", first, second)
			}
		}
	}
	for what, made := range madeLeaves {
		for k := range list {
			if got, code := made(list, l, k); code != impl.OK || !staysApart(defectsOf(got), func(k int) impl.Box { return box(int64(k), -1, -1, -1) }) || !slices.Equal(boxes, kept) {
				t.Fatalf("%s: leaves share memory", what)
			}
		}
	}
}

// TestLeavesAtOnce makes the same calls from several goroutines.
func TestLeavesAtOnce(t *testing.T) {
	const rounds = 6
	results := make(chan string)
	list := leavesOf(16)
	for range rounds {
		go func() {
			text := ""
			for seed := range 50 {
				text += leafResults(leafArguments{l: farLeaf(seed), list: list, a: box(0, 0, 10, 10), s: "f1"})
				text += leafResults(leafArguments{l: list[seed%16], list: list[1:], a: box(0, 0, 10, 10), s: "ash"})
			}
			results <- text
		}()
	}
	first := <-results
	for range rounds - 1 {
		if again := <-results; again != first {
			t.Errorf("%s and at the same time %s", first, again)
		}
	}
}
