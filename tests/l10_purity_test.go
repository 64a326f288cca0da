package tests

import (
	"fmt"
	"math"
	"slices"
	"testing"

	"loop.example/g00956/impl"
)

// matchArguments are those of all functions of chapter 10.
type matchArguments struct {
	l, other  impl.Leaf
	list      []impl.Leaf
	chosen    []int64
	pairs     [][]int64
	k, budget int64
	flitch    string
	book      bool
}

// matchResults calls every function of chapter 10.
func matchResults(a matchArguments) string {
	mirrored, mirroredCode := impl.MirrorLeaf(a.l)
	score, scoreCode := impl.MatchScore(a.l, a.other, a.book)
	match, matchScore, matchCode := impl.BestMatch(a.list, a.k, a.book)
	run, runCode := impl.LongestRun(a.list, a.flitch)
	missing, missingCode := impl.MissingNumbers(a.list, a.flitch)
	book, bookCode := impl.BookPairs(a.list, a.flitch)
	sum, sumCode := impl.PairsScore(a.list, a.pairs, a.book)
	greedy, greedyCode := impl.GreedyPairs(a.list, a.book)
	best, bestSum, bestCode := impl.BestPairs(a.list, a.book, a.budget)
	text := fmt.Sprint(mirrored, mirroredCode, score, scoreCode, match, matchScore, matchCode, impl.IsSequence(a.list, a.chosen), run, runCode)
	return text + fmt.Sprint(missing, missingCode, book, bookCode, sum, sumCode, greedy, greedyCode, best, bestSum, bestCode)
}

// numbersWithSpare is a copy with marks behind its end.
func numbersWithSpare(list []int64) []int64 {
	return append(slices.Clone(list), slices.Repeat([]int64{-77}, 12)...)[:len(list)]
}

// pairsWithSpare is a copy with marks behind all slices.
func pairsWithSpare(pairs [][]int64) [][]int64 {
	var spare [][]int64
	for _, p := range pairs {
		spare = append(spare, numbersWithSpare(p))
	}
	return append(spare, slices.Repeat([][]int64{{-7, -7}}, 12)...)[:len(pairs)]
}

// allOfPairs writes down all that the slices hold, also behind their ends.
func allOfPairs(pairs [][]int64) string {
	text := ""
	for _, p := range pairs[:cap(pairs)] {
		text += fmt.Sprint(len(p), p[:cap(p)])
	}
	return text
}

func copyOfPairs(pairs [][]int64) [][]int64 {
	var copies [][]int64
	for _, p := range pairs {
		copies = append(copies, slices.Clip(slices.Clone(p)))
	}
	return slices.Clip(copies)
}

// checkSameMatchesAgain calls with arguments that have marks behind their slices, and with copies that have none.
func checkSameMatchesAgain(t *testing.T, a matchArguments) {
	t.Helper()
	spare, copies := a, a
	spare.l, spare.other, spare.list = leafWithSpare(a.l), leafWithSpare(a.other), leavesWithSpare(a.list)
	spare.chosen, spare.pairs = numbersWithSpare(a.chosen), pairsWithSpare(a.pairs)
	whole := func() string {
		return allOfLeaves([]impl.Leaf{spare.l, spare.other}) + allOfLeaves(spare.list) + allOfPairs([][]int64{spare.chosen}) + allOfPairs(spare.pairs)
	}
	before := whole()
	copies.l, copies.other, copies.list = copyOfLeaf(a.l), copyOfLeaf(a.other), copyOfLeaves(a.list)
	copies.chosen, copies.pairs = slices.Clip(slices.Clone(a.chosen)), copyOfPairs(a.pairs)
	first := matchResults(spare)
	second := matchResults(copies)
	third := matchResults(spare)
	if first != second || first != third {
		t.Fatalf("%.500v: %.500s and then %.500s and %.500s", fmt.Sprint(a), first, second, third)
	}
	if before != whole() {
		t.Fatalf("%.500v: an argument or what lies behind a slice is changed", fmt.Sprint(a))
	}
}

// somePairs are pairs of lists with n leaves, and some that are none.
func somePairs(n int) [][]int64 {
	var pairs [][]int64
	for k := int64(0); k+1 < int64(n); k += 2 {
		pairs = append(pairs, []int64{k, k + 1})
	}
	if n%5 == 4 {
		slices.Reverse(pairs)
	}
	if n%7 == 6 {
		pairs[1] = nil
	}
	return pairs
}

func TestMatchesAreTheSameAgain(t *testing.T) {
	good := goodLeaves()
	check := func(n int, l impl.Leaf, list []impl.Leaf) {
		a := matchArguments{l: l, other: good[n%len(good)], list: list, chosen: []int64{int64(n % 3), int64(n % 5)}, pairs: somePairs(min(len(list), 16)), k: int64(n % 7), budget: int64(n * 17 % 21000), flitch: []string{"one", "a1", "b1", "f1", ""}[n%5], book: n%2 == 0}
		checkSameMatchesAgain(t, a)
		a.l, a.other, a.chosen, a.k, a.book = a.other, a.l, []int64{0}, -1, !a.book
		checkSameMatchesAgain(t, a)
	}
	forPlentyOfLeaves(check)
	for k, list := range flitchLists() {
		if k%3 == 0 {
			check(k, good[k%len(good)], list)
		}
	}
}

// TestFarNumbersInMatching puts far numbers into each two numbers of leaves, sequences and pairs.
func TestFarNumbersInMatching(t *testing.T) {
	far := append([]int64{999, 1000, 2, 3, impl.MaxBudget, impl.MaxBudget + 1}, farCoordinates...)
	for _, n := range far {
		for _, m := range far {
			l := leafOf(50, 40, box(5, 5, 10, 10), box(10, 10, 40, 30))
			list := append(givenLeaves(), pairedLeaves(5, 4)[2:]...)
			chosen, pairs := []int64{1, 0, 2}, [][]int64{{0, 2}, {1, 3}}
			a := matchArguments{l: l, other: givenLeaves()[0], list: list, chosen: chosen, pairs: pairs, k: 1, budget: 10, flitch: "f1"}
			places := []*int64{
				&l.Number, &l.Width, &l.Length, &l.Veneer.Shade, &l.Veneer.Grain, &l.Defects[0].X, &l.Defects[0].Y, &l.Defects[1].Width, &l.Defects[1].Length, &list[0].Number, &list[1].Number, &list[0].Width, &list[1].Veneer.Grain, &list[1].Veneer.Shade, &list[1].Defects[1].Width, &list[3].Number,
				&chosen[0], &chosen[1], &chosen[2], &pairs[0][0], &pairs[0][1], &pairs[1][0], &pairs[1][1], &a.k, &a.budget,
			}
			for k, place := range places {
				next := places[(k+int(magnitudeOf(m%7))+1)%len(places)]
				kept, keptNext := *place, *next
				*place = n
				a.l, a.book = l, k%2 == 0
				checkSameMatchesAgain(t, a)
				*next = m
				a.l = l
				checkSameMatchesAgain(t, a)
				*next, *place = keptNext, kept
			}
		}
	}
}

func TestEveryFlitchReturnsTheSameAgain(t *testing.T) {
	for k, s := range slices.Concat(oddTexts(), notDecimal, noSpecies(), noNames, goodTexts) {
		list := pairedLeaves(k, 6)
		checkSameMatchesAgain(t, matchArguments{l: list[0], other: list[1], list: list, k: 1, budget: 50, flitch: s, book: true})
		list[k%6].Flitch = s
		checkSameMatchesAgain(t, matchArguments{l: list[k%6], other: list[0], list: list, k: 1, budget: 50, flitch: s})
	}
}

func TestNilAndEmptyMatchesAreEquivalent(t *testing.T) {
	for _, base := range []impl.Leaf{{}, leafOf(10, 10), leafOf(9, 10)} {
		empty := base
		empty.Defects = []impl.Box{}
		for _, list := range [][2][]impl.Leaf{{nil, {}}, {{base}, {empty}}} {
			for _, book := range []bool{false, true} {
				first := matchResults(matchArguments{l: base, other: empty, list: list[0], budget: 5, flitch: "f", book: book})
				second := matchResults(matchArguments{l: empty, other: base, list: list[1], chosen: []int64{}, pairs: [][]int64{}, budget: 5, flitch: "f", book: book})
				if first != second {
					t.Errorf("%s and then %s", first, second)
				}
			}
		}
	}
	for _, pairs := range [][][]int64{{nil}, {{}}} {
		checkPairsScore(t, leavesOf(4), pairs, false, 0, impl.ErrRange)
	}
}

// TestMirroredLeavesAreNewMemory writes into one result, and then into the argument.
func TestMirroredLeavesAreNewMemory(t *testing.T) {
	for _, base := range goodLeaves() {
		l := leafWithSpare(base)
		before := allOfLeaves([]impl.Leaf{l})
		kept, _ := impl.MirrorLeaf(l)
		want := allOfLeaves([]impl.Leaf{kept})
		other, _ := impl.MirrorLeaf(l)
		fillBoxes(other.Defects, -7)
		again, _ := impl.MirrorLeaf(l)
		if allOfLeaves([]impl.Leaf{l}) != before || !sameLeaves(again, kept) || allOfLeaves([]impl.Leaf{kept}) != want {
			t.Fatalf("%v turned over shares memory with it or with another result", base)
		}
		fillBoxes(l.Defects, -8)
		if allOfLeaves([]impl.Leaf{kept}) != want {
			t.Fatalf("%v turned over changes with it", base)
		}
	}
}

// matchLists are the functions that return lists of numbers.
var matchLists = map[string]func(list []impl.Leaf) [][]int64{
	"LongestRun":     func(list []impl.Leaf) [][]int64 { run, _ := impl.LongestRun(list, "one"); return [][]int64{run} },
	"MissingNumbers": func(list []impl.Leaf) [][]int64 { all, _ := impl.MissingNumbers(list, "one"); return [][]int64{all} },
	"BookPairs":      func(list []impl.Leaf) [][]int64 { pairs, _ := impl.BookPairs(list, "one"); return pairs },
	"GreedyPairs":    func(list []impl.Leaf) [][]int64 { pairs, _ := impl.GreedyPairs(list, true); return pairs },
	"BestPairs": func(list []impl.Leaf) [][]int64 {
		pairs, _, _ := impl.BestPairs(list, true, impl.MaxBudget)
		return pairs
	},
}

// TestListsOfMatchingAreNewMemory writes a mark of its own into each list of a result, then into the list of lists, and over the leaves.
func TestListsOfMatchingAreNewMemory(t *testing.T) {
	for what, lists := range matchLists {
		for n := 1; n <= 12; n++ {
			list := leavesWithSpare(numbered(leavesOf(n), func(k int) int64 { return int64(k + k/4*2) }))
			before := allOfLeaves(list)
			kept := lists(list)
			want := fmt.Sprint(kept)
			other := lists(list)
			if !staysApart(other, func(k int) int64 { return int64(-k - 1) }) {
				t.Fatalf("%s: two lists of a result for %v share memory", what, list)
			}
			for k := range other[:cap(other)] {
				other[:cap(other)][k] = []int64{math.MinInt64}
			}
			if allOfLeaves(list) != before || fmt.Sprint(kept) != want || fmt.Sprint(lists(list)) != want {
				t.Fatalf("%s: the lists for %v share memory with it or with others", what, list)
			}
			fillLeaves(list, -9)
			if fmt.Sprint(kept) != want {
				t.Fatalf("%s: the lists for %v change with it", what, list)
			}
		}
	}
}

// TestPairsMayShareMemory has pairs and sequences that lie in one list, and leaves whose defects do.
func TestPairsMayShareMemory(t *testing.T) {
	numbers := []int64{0, 1, 2, 3, 4, 5}
	boxes := []impl.Box{box(0, 0, 3, 3), box(1, 1, 5, 5), box(4, 0, 1, 10)}
	list := numberedLeaves(3, 4, 5, 6, 8, 9)
	for k := range list {
		list[k].Width, list[k].Length, list[k].Defects = 10, 10, boxes[k%3:]
	}
	a := matchArguments{l: list[0], other: list[1], list: list, chosen: numbers[:4], k: 1, budget: 100, flitch: "one"}
	for _, pairs := range [][][]int64{{numbers[:2], numbers[2:4], numbers[4:]}, {numbers[:2], numbers[:2]}, {numbers[:2:2], numbers[1:3:3]}} {
		a.pairs = pairs
		for _, book := range []bool{false, true} {
			a.book = book
			first := matchResults(a)
			copies := a
			copies.pairs, copies.list, copies.l = copyOfPairs(pairs), copyOfLeaves(list), copyOfLeaf(list[0])
			if second := matchResults(copies); first != second || fmt.Sprint(numbers) != "[0 1 2 3 4 5]" || boxes[2] != box(4, 0, 1, 10) || boxes[0] != box(0, 0, 3, 3) {
				t.Fatalf("%s, and with copies %s", first, second)
			}
		}
	}
	checkPairsScore(t, list, [][]int64{numbers[:2], numbers[2:4], numbers[4:]}, false, 3, impl.OK)
}

// TestSpentBudgetsLeaveNoPairs calls with other budgets between: the results stay.
func TestSpentBudgetsLeaveNoPairs(t *testing.T) {
	for seed := range 40 {
		list := pairedLeaves(seed, 6+seed%6)
		budgets := []int64{impl.MaxBudget, 1, 2, 3, 5, 8, 13, 21, 100, 400}
		var want []string
		for _, budget := range budgets {
			want = append(want, matchResults(matchArguments{list: list, budget: budget}))
		}
		for k := len(budgets) - 1; k >= 0; k-- {
			if again := matchResults(matchArguments{list: list, budget: budgets[k]}); again != want[k] {
				t.Fatalf("%v with the budget %d: %s and then %s", list, budgets[k], want[k], again)
			}
		}
	}
}

// TestMatchesAtOnce makes the same calls from several goroutines: no search sees another one.
func TestMatchesAtOnce(t *testing.T) {
	const rounds = 6
	results := make(chan string)
	list := pairedLeaves(7, 16)
	for range rounds {
		go func() {
			text := ""
			for seed := range 30 {
				text += matchResults(matchArguments{l: list[seed%16], other: list[1], list: list[seed%3:], chosen: []int64{0}, pairs: somePairs(12), k: 2, budget: int64(100 * seed), flitch: "a1", book: seed%2 == 0})
				text += matchResults(matchArguments{l: farLeaf(seed), other: list[1], list: pairedLeaves(seed, seed%17), k: 0, budget: 3000, flitch: "b1"})
			}
			results <- text
		}()
	}
	first := <-results
	for range rounds - 1 {
		if again := <-results; again != first {
			t.Errorf("%s and at the same time %s", first, again)
		}
	}
}
