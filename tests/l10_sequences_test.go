package tests

import (
	"fmt"
	"slices"
	"strings"
	"testing"

	"loop.example/g00956/impl"
)

func checkSequence(t *testing.T, list []impl.Leaf, chosen []int64, want bool) {
	t.Helper()
	if got := impl.IsSequence(list, chosen); got != want {
		t.Fatalf("IsSequence(%v, %.100v) is %v", list, fmt.Sprint(chosen), got)
	}
}

func TestIsSequence(t *testing.T) {
	for _, c := range []struct {
		numbers, chosen []int64
		want            bool
	}{
		{[]int64{3, 4, 7}, []int64{0, 1}, true}, {[]int64{3, 4, 7}, nil, false}, {[]int64{3, 4, 7}, []int64{}, false}, {nil, nil, false}, {nil, []int64{0}, false}, {[]int64{3, 4, 7}, []int64{0}, true}, {[]int64{3, 4, 7}, []int64{2}, true}, {[]int64{5}, []int64{0}, true}, {[]int64{5}, []int64{1}, false},
		// A number is missing between the leaves.
		{[]int64{3, 4, 7}, []int64{1, 2}, false}, {[]int64{3, 4, 7}, []int64{0, 1, 2}, false}, {[]int64{3, 5}, []int64{0, 1}, false}, {[]int64{3, 4, 6, 7}, []int64{0, 1, 2, 3}, false}, {[]int64{3, 4, 6, 7}, []int64{2, 3}, true}, {[]int64{0, 999}, []int64{0, 1}, false},
		// The Numbers rise by 0, 1 and 2, or fall.
		{[]int64{3, 3}, []int64{0, 1}, false}, {[]int64{3, 3, 4}, []int64{0, 1, 2}, false}, {[]int64{3, 3, 4}, []int64{0, 2}, true}, {[]int64{3, 3, 4}, []int64{1, 2}, true}, {[]int64{4, 3}, []int64{0, 1}, false}, {[]int64{4, 3}, []int64{1, 0}, true}, {[]int64{3, 4}, []int64{1, 0}, false}, {[]int64{3, 4, 4}, []int64{0, 1, 2}, false},
		{[]int64{2, 0, 1}, []int64{1, 2, 0}, true}, {[]int64{2, 0, 1}, []int64{0, 1, 2}, false}, {[]int64{998, 999}, []int64{0, 1}, true}, {[]int64{0, 1}, []int64{0, 1}, true}, {[]int64{5, 6, 7, 8}, []int64{0, 1, 2, 3}, true}, {[]int64{5, 6, 7, 8}, []int64{1, 2}, true}, {[]int64{5, 6, 7, 8}, []int64{0, 2}, false}, {[]int64{5, 6, 7, 8}, []int64{0, 1, 3}, false},
		// The same index twice.
		{[]int64{3, 4}, []int64{0, 0}, false}, {[]int64{3, 4}, []int64{0, 1, 1}, false}, {[]int64{3, 4}, []int64{0, 1, 0}, false}, {[]int64{3, 4}, []int64{0, 1, 0, 1}, false},
		{[]int64{3, 4, 5}, []int64{0, 1, 3}, false}, {[]int64{3, 4, 5}, []int64{-1, 0, 1}, false}, {[]int64{3, 4, 5}, []int64{0, -1}, false}, {[]int64{3, 4, 5}, []int64{3, 0}, false}, {[]int64{3, 4, 5}, []int64{0, 3, 2}, false},
	} {
		checkSequence(t, numberedLeaves(c.numbers...), c.chosen, c.want)
	}
	for n := range 17 {
		list := numbered(leavesOf(n), func(k int) int64 { return int64(k) })
		for _, far := range noIndices(n) {
			checkSequence(t, list, []int64{far}, false)
			checkSequence(t, list, []int64{0, far}, false)
			checkSequence(t, list, []int64{far, 0}, false)
		}
	}
	all := numbered(leavesOf(16), func(k int) int64 { return int64(k + 984) })
	checkSequence(t, all, []int64{0, 1, 2, 3, 4, 5, 6, 7, 8, 9, 10, 11, 12, 13, 14, 15}, true)
	checkSequence(t, all, slices.Repeat([]int64{0, 1}, 100000), false)
}

func TestSequencesAreOfOneFlitch(t *testing.T) {
	list := numberedLeaves(1, 2, 3)
	chosen := []int64{0, 1, 2}
	for _, c := range []struct {
		flitches string
		want     bool
	}{{"f f f", true}, {"f g f", false}, {"g f f", false}, {"f f g", false}, {"f g g", false}, {"f ff f", false}, {"g g g", true}, {"f f0 f", false}} {
		checkSequence(t, withFlitches(list, strings.Fields(c.flitches)...), chosen, c.want)
	}
	// Species, shades and grains make no difference.
	mixed := withFlitches(leavesOf(3), "f", "f", "f")
	mixed[0].Number, mixed[1].Number, mixed[2].Number = 1, 2, 3
	checkSequence(t, mixed, chosen, true)
	checkSequence(t, changedLeaves(list, func(list []impl.Leaf) { list[0].Flitch = "g" }), []int64{1, 2}, true)
	// The leaves are chosen in the order of their Numbers, and the list need not be in it; a leaf that is not chosen makes it invalid.
	checkSequence(t, changedLeaves(list, func(list []impl.Leaf) { list[2].Number = 1000 }), []int64{0, 1}, false)
	checkSequence(t, changedLeaves(list, func(list []impl.Leaf) { list[0].Width = 9 }), []int64{1, 2}, false)
	checkSequence(t, changedLeaves(list, func(list []impl.Leaf) { list[2].Id = list[1].Id }), []int64{0, 1}, false)
}

// TestAllShortSequences tries all lists of up to three indices, also of those that are none.
func TestAllShortSequences(t *testing.T) {
	found := 0
	for seed := range 24 {
		list := pairedLeaves(seed, 5)
		for length := range 4 {
			forChoices(length, 7, func(choice []int64) bool {
				chosen := slices.Clone(choice)
				for k := range chosen {
					chosen[k]--
				}
				want := isSequenceAsTold(list, chosen)
				checkSequence(t, list, chosen, want)
				if want && length > 1 {
					found++
				}
				return true
			})
		}
	}
	if found < 20 {
		t.Errorf("only %d sequences", found)
	}
}

// flitchLists are lists with all kinds of Numbers, in several flitches.
func flitchLists() [][]impl.Leaf {
	lists := [][]impl.Leaf{nil, {}}
	for n := 1; n <= 16; n++ {
		for _, number := range []func(k int) int64{
			func(k int) int64 { return 7 }, func(k int) int64 { return int64(k) }, func(k int) int64 { return 999 - int64(k) }, func(k int) int64 { return int64(k % 2) }, func(k int) int64 { return int64(k / 2) }, func(k int) int64 { return int64(k / 3 * 2) }, func(k int) int64 { return int64(k * 617 % 1000) },
			func(k int) int64 { return 999 * int64(k%2) }, func(k int) int64 { return int64(k*7%5 + k*3%2) }, func(k int) int64 { return int64(k*5%16) + int64(k*5%16)/4 }, func(k int) int64 { return int64(k * 5) }, func(k int) int64 { return int64(k + k/5) },
		} {
			lists = append(lists, numbered(leavesOf(n), number))
		}
		for seed := range 16 {
			lists = append(lists, pairedLeaves(seed, n))
		}
	}
	return lists
}

// flitchesToTry are those of the lists, and others.
func flitchesToTry() []string {
	return append([]string{"one", "a1", "b1", "c1", "a", "on", "ones", "b", "oak", "z"}, noNames...)
}

func checkRun(t *testing.T, list []impl.Leaf, flitch string, want []int64, wantCode int64) {
	t.Helper()
	got, code := impl.LongestRun(list, flitch)
	checkIndices(t, fmt.Sprintf("LongestRun(%v, %.20q)", list, flitch), got, code, want, wantCode)
	if code == impl.OK {
		checkSequence(t, list, got, true)
	}
}

func TestLongestRun(t *testing.T) {
	for _, c := range []struct{ numbers, want []int64 }{
		{[]int64{3, 4, 7}, []int64{0, 1}}, {[]int64{5}, []int64{0}}, {[]int64{0}, []int64{0}}, {[]int64{999}, []int64{0}}, {[]int64{0, 999}, []int64{0}}, {[]int64{999, 0}, []int64{1}}, {[]int64{1, 2, 3, 4}, []int64{0, 1, 2, 3}}, {[]int64{4, 3, 2, 1}, []int64{3, 2, 1, 0}}, {[]int64{2, 4, 1, 3}, []int64{2, 0, 3, 1}},
		// A gap of one and more numbers.
		{[]int64{1, 3}, []int64{0}}, {[]int64{3, 1}, []int64{1}}, {[]int64{1, 2, 4, 5, 6}, []int64{2, 3, 4}}, {[]int64{1, 2, 3, 5, 6}, []int64{0, 1, 2}}, {[]int64{1, 3, 4, 6, 7, 8, 10}, []int64{3, 4, 5}}, {[]int64{9, 1, 8, 2, 7, 4}, []int64{4, 2, 0}},
		// Two runs of the same length: the one with the least first Number, also if its leaves are behind.
		{[]int64{1, 2, 4, 5}, []int64{0, 1}}, {[]int64{4, 5, 1, 2}, []int64{2, 3}}, {[]int64{5, 2, 4, 1}, []int64{3, 1}}, {[]int64{1, 3, 5}, []int64{0}}, {[]int64{5, 3, 1}, []int64{2}}, {[]int64{1, 10, 11, 20, 21, 30}, []int64{1, 2}},
		// Of equal Numbers, only the first leaf is taken, and the run goes on behind it.
		{[]int64{3, 3}, []int64{0}}, {[]int64{3, 3, 3}, []int64{0}}, {[]int64{3, 4, 4, 5}, []int64{0, 1, 3}}, {[]int64{3, 3, 4, 4, 5, 5}, []int64{0, 2, 4}}, {[]int64{5, 4, 3, 5, 4, 3}, []int64{2, 1, 0}}, {[]int64{1, 2, 4, 4, 4, 5}, []int64{0, 1}}, {[]int64{4, 4, 4, 1, 2}, []int64{3, 4}}, {[]int64{1, 2, 2, 2, 7, 8, 9, 9}, []int64{4, 5, 6}}, {[]int64{997, 998, 998, 999, 0}, []int64{0, 1, 3}},
	} {
		checkRun(t, numberedLeaves(c.numbers...), "one", c.want, impl.OK)
	}
	// Another flitch has the numbers that are missing.
	list := withFlitches(numberedLeaves(1, 2, 3, 4, 5), "f", "g", "f", "f", "g")
	checkRun(t, list, "f", []int64{2, 3}, impl.OK)
	checkRun(t, list, "g", []int64{1}, impl.OK)
	list = withFlitches(numberedLeaves(1, 1, 2, 2), "f", "g", "g", "f")
	checkRun(t, list, "f", []int64{0, 3}, impl.OK)
	checkRun(t, list, "g", []int64{1, 2}, impl.OK)
}

func checkMissing(t *testing.T, list []impl.Leaf, flitch string, want []int64, wantCode int64) {
	t.Helper()
	got, code := impl.MissingNumbers(list, flitch)
	checkIndices(t, fmt.Sprintf("MissingNumbers(%v, %.20q)", list, flitch), got, code, want, wantCode)
}

func TestMissingNumbers(t *testing.T) {
	for _, c := range []struct{ numbers, want []int64 }{
		{[]int64{3, 4, 7}, []int64{5, 6}}, {[]int64{7, 4, 3}, []int64{5, 6}}, {[]int64{5}, nil}, {[]int64{0}, nil}, {[]int64{999}, nil}, {[]int64{3, 4, 5}, nil}, {[]int64{5, 3, 4}, nil}, {[]int64{3, 5}, []int64{4}}, {[]int64{5, 3}, []int64{4}}, {[]int64{0, 3}, []int64{1, 2}}, {[]int64{996, 999}, []int64{997, 998}},
		{[]int64{3, 3}, nil}, {[]int64{3, 3, 5, 5}, []int64{4}}, {[]int64{3, 4, 4, 5}, nil}, {[]int64{3, 5, 3, 5, 7, 7}, []int64{4, 6}}, {[]int64{1, 3, 6, 10}, []int64{2, 4, 5, 7, 8, 9}}, {[]int64{10, 3, 1, 6}, []int64{2, 4, 5, 7, 8, 9}}, {[]int64{1, 2, 4, 5, 8}, []int64{3, 6, 7}},
	} {
		checkMissing(t, numberedLeaves(c.numbers...), "one", c.want, impl.OK)
	}
	list := withFlitches(numberedLeaves(1, 2, 3, 4, 5), "f", "g", "g", "f", "g")
	checkMissing(t, list, "f", []int64{2, 3}, impl.OK)
	checkMissing(t, list, "g", []int64{4}, impl.OK)
}

// TestManyMissingNumbers has up to 64 numbers missing in one gap and in several ones, and more than 64.
func TestManyMissingNumbers(t *testing.T) {
	for _, c := range []struct {
		numbers []int64
		missing int
	}{
		{[]int64{0, 64}, 63}, {[]int64{0, 65}, 64}, {[]int64{0, 66}, 65}, {[]int64{65, 0}, 64}, {[]int64{66, 0}, 65}, {[]int64{934, 999}, 64}, {[]int64{933, 999}, 65}, {[]int64{0, 33, 66}, 64}, {[]int64{0, 33, 67}, 65}, {[]int64{67, 0, 33, 33}, 65}, {[]int64{66, 0, 33, 33}, 64}, {[]int64{0, 65, 66, 67}, 64}, {[]int64{0, 65, 67}, 65}, {[]int64{0, 1, 67}, 65}, {[]int64{0, 1, 66}, 64},
		{[]int64{0, 999}, 998}, {[]int64{999, 0}, 998}, {[]int64{0, 500, 999}, 997}, {[]int64{0, 6, 12, 18, 24, 30, 36, 42, 48, 54, 60, 66, 72}, 60}, {[]int64{0, 6, 12, 18, 24, 30, 36, 42, 48, 54, 60, 66, 71}, 59}, {[]int64{0, 6, 12, 18, 24, 30, 36, 42, 48, 54, 60, 66, 72, 77}, 64}, {[]int64{0, 6, 12, 18, 24, 30, 36, 42, 48, 54, 60, 66, 72, 78}, 65},
	} {
		list := numberedLeaves(c.numbers...)
		want, wantCode := missingAsTold(list, "one"), int64(impl.OK)
		if len(want) != c.missing {
			t.Fatalf("%v lack %d numbers", c.numbers, len(want))
		}
		if c.missing > 64 {
			want, wantCode = nil, impl.ErrFull
		}
		checkMissing(t, list, "one", want, wantCode)
		// Another flitch without gaps makes no difference.
		if len(c.numbers) <= 3 {
			other := changedLeaves(numberedLeaves(append(slices.Clone(c.numbers), 5, 6, 7)...), func(list []impl.Leaf) {
				for k := range list[len(c.numbers):] {
					list[len(c.numbers)+k].Flitch = "other"
				}
			})
			checkMissing(t, other, "one", want, wantCode)
			checkMissing(t, other, "other", nil, impl.OK)
		}
	}
}

func checkBook(t *testing.T, list []impl.Leaf, flitch string, want [][]int64, wantCode int64) {
	t.Helper()
	got, code := impl.BookPairs(list, flitch)
	if !slices.EqualFunc(got, want, slices.Equal) || code != wantCode {
		t.Fatalf("BookPairs(%v, %.20q) is %v, %d, want %v, %d", list, flitch, got, code, want, wantCode)
	}
	// Each pair is a sequence of two, and no leaf is in two of them.
	taken := map[int64]bool{}
	for _, p := range got {
		checkSequence(t, list, p, true)
		if len(p) != 2 || taken[p[0]] || taken[p[1]] {
			t.Fatalf("BookPairs(%v, %.20q) is %v", list, flitch, got)
		}
		taken[p[0]], taken[p[1]] = true, true
	}
}

func TestBookPairs(t *testing.T) {
	for _, c := range []struct {
		numbers []int64
		want    [][]int64
	}{
		{[]int64{3, 4, 7}, [][]int64{{0, 1}}}, {[]int64{5}, nil}, {[]int64{1, 2}, [][]int64{{0, 1}}}, {[]int64{1, 2, 3}, [][]int64{{0, 1}}}, {[]int64{1, 2, 3, 4}, [][]int64{{0, 1}, {2, 3}}}, {[]int64{1, 2, 3, 4, 5}, [][]int64{{0, 1}, {2, 3}}}, {[]int64{0, 1, 998, 999}, [][]int64{{0, 1}, {2, 3}}},
		// Where a number is missing, the pairs begin again.
		{[]int64{1, 3}, nil}, {[]int64{1, 3, 5, 7}, nil}, {[]int64{1, 3, 4}, [][]int64{{1, 2}}}, {[]int64{1, 2, 3, 5, 6}, [][]int64{{0, 1}, {3, 4}}}, {[]int64{1, 3, 4, 5, 6}, [][]int64{{1, 2}, {3, 4}}}, {[]int64{1, 2, 4, 6, 7, 8, 9, 11}, [][]int64{{0, 1}, {3, 4}, {5, 6}}},
		// With the next one in the order a leaf of the same Number, no pair is made.
		{[]int64{3, 3}, nil}, {[]int64{3, 3, 4}, [][]int64{{1, 2}}}, {[]int64{3, 4, 4}, [][]int64{{0, 1}}}, {[]int64{3, 3, 4, 4}, [][]int64{{1, 2}}}, {[]int64{3, 4, 4, 5}, [][]int64{{0, 1}, {2, 3}}}, {[]int64{3, 3, 3, 4, 5}, [][]int64{{2, 3}}}, {[]int64{3, 3, 4, 4, 5, 5}, [][]int64{{1, 2}, {3, 4}}}, {[]int64{3, 4, 3, 4}, [][]int64{{2, 1}}},
		// The order by Number is not that of the indices: the leaf with the lesser Number comes first, and so does the pair.
		{[]int64{2, 1}, [][]int64{{1, 0}}}, {[]int64{4, 3, 2, 1}, [][]int64{{3, 2}, {1, 0}}}, {[]int64{3, 4, 1, 2}, [][]int64{{2, 3}, {0, 1}}}, {[]int64{2, 4, 1, 3}, [][]int64{{2, 0}, {3, 1}}}, {[]int64{3, 2, 1}, [][]int64{{2, 1}}}, {[]int64{7, 6, 3, 2}, [][]int64{{3, 2}, {1, 0}}},
	} {
		checkBook(t, numberedLeaves(c.numbers...), "one", c.want, impl.OK)
	}
	list := withFlitches(numberedLeaves(1, 2, 3, 4, 5), "f", "g", "f", "f", "g")
	checkBook(t, list, "f", [][]int64{{2, 3}}, impl.OK)
	checkBook(t, list, "g", nil, impl.OK)
	list = withFlitches(numberedLeaves(1, 1, 2, 2), "f", "g", "g", "f")
	checkBook(t, list, "f", [][]int64{{0, 3}}, impl.OK)
	checkBook(t, list, "g", [][]int64{{1, 2}}, impl.OK)
}

// TestSequencesAreWhatTheyAreCalled is promise 11 for sequences, with all kinds of lists, and with flitches of which there is no leaf.
func TestSequencesAreWhatTheyAreCalled(t *testing.T) {
	ends := map[string]int{}
	for _, list := range flitchLists() {
		for _, flitch := range flitchesToTry() {
			if len(flitchAsTold(list, flitch)) == 0 {
				checkRun(t, list, flitch, nil, impl.ErrNotFound)
				checkMissing(t, list, flitch, nil, impl.ErrNotFound)
				checkBook(t, list, flitch, nil, impl.ErrNotFound)
				ends["none"]++
				continue
			}
			run, missing, pairs := runAsTold(list, flitch), missingAsTold(list, flitch), bookAsTold(list, flitch)
			checkRun(t, list, flitch, run, impl.OK)
			checkBook(t, list, flitch, pairs, impl.OK)
			if len(missing) > 64 {
				checkMissing(t, list, flitch, nil, impl.ErrFull)
				ends["full"]++
			} else {
				checkMissing(t, list, flitch, missing, impl.OK)
			}
			ends[fmt.Sprint("runs of ", min(len(run), 5))]++
			ends[fmt.Sprint("pairs ", min(len(pairs), 4))]++
		}
	}
	for _, end := range []string{"none", "full", "runs of 1", "runs of 2", "runs of 3", "runs of 4", "runs of 5", "pairs 0", "pairs 1", "pairs 2", "pairs 3", "pairs 4"} {
		if ends[end] < 10 {
			t.Errorf("too few of some lists: %v", ends)
		}
	}
}

func TestInvalidListsHaveNoSequences(t *testing.T) {
	forBadLists(func(reason string, list []impl.Leaf) {
		for _, flitch := range []string{"", "f0", "f9", list[0].Flitch} {
			run, runCode := impl.LongestRun(list, flitch)
			missing, missingCode := impl.MissingNumbers(list, flitch)
			pairs, pairsCode := impl.BookPairs(list, flitch)
			if len(run)+len(missing)+len(pairs) > 0 || !slices.Equal([]int64{runCode, missingCode, pairsCode}, slices.Repeat([]int64{impl.ErrInvalid}, 3)) {
				t.Errorf("%s, %.20q: %v, %d, %v, %d, %v, %d", reason, flitch, run, runCode, missing, missingCode, pairs, pairsCode)
			}
		}
		for _, chosen := range [][]int64{nil, {0}, {int64(len(list) - 1)}, {int64(len(list))}, {-1}} {
			if impl.IsSequence(list, chosen) {
				t.Errorf("%s: %v is a sequence", reason, chosen)
			}
		}
		for _, k := range []int64{0, 1, -1, int64(len(list)) - 1, int64(len(list))} {
			if best, score, code := impl.BestMatch(list, k, k == 1); best != 0 || score != 0 || code != impl.ErrInvalid {
				t.Errorf("%s: BestMatch is %d, %d, %d", reason, best, score, code)
			}
		}
	})
}
