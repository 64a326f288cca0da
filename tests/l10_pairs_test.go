package tests

import (
	"fmt"
	"math"
	"slices"
	"testing"

	"loop.example/g00956/impl"
)

func checkPairsScore(t *testing.T, list []impl.Leaf, pairs [][]int64, book bool, want, wantCode int64) {
	t.Helper()
	if got, code := impl.PairsScore(list, pairs, book); got != want || code != wantCode {
		t.Fatalf("PairsScore(%v, %.200v, %v) is %d, %d, want %d, %d", list, fmt.Sprint(pairs), book, got, code, want, wantCode)
	}
}

func TestPairsScore(t *testing.T) {
	list := numberedLeaves(0, 1, 3, 7, 15, 50)
	for _, c := range []struct {
		pairs [][]int64
		want  int64
	}{
		{nil, 0}, {[][]int64{}, 0}, {[][]int64{{0, 1}}, 1}, {[][]int64{{0, 2}}, 3}, {[][]int64{{1, 2}}, 2}, {[][]int64{{4, 5}}, 20}, {[][]int64{{0, 5}}, 20}, {[][]int64{{0, 1}, {2, 3}}, 5}, {[][]int64{{0, 1}, {2, 3}, {4, 5}}, 25}, {[][]int64{{0, 5}, {1, 4}, {2, 3}}, 38}, {[][]int64{{0, 4}, {3, 5}}, 35}, {[][]int64{{1, 3}, {2, 4}}, 18},
	} {
		checkPairsScore(t, list, c.pairs, false, c.want, impl.OK)
		checkPairsScore(t, list, c.pairs, true, c.want, impl.OK)
	}
	turned := changedLeaves(list, func(list []impl.Leaf) { list[0].Veneer.Grain, list[1].Veneer.Grain = 30, 150 })
	checkPairsScore(t, turned, [][]int64{{0, 1}, {2, 3}}, false, 65, impl.OK)
	checkPairsScore(t, turned, [][]int64{{0, 1}, {2, 3}}, true, 5, impl.OK)
	for _, list := range [][]impl.Leaf{nil, {}, leavesOf(1), leavesOf(16)} {
		checkPairsScore(t, list, nil, false, 0, impl.OK)
		checkPairsScore(t, list, [][]int64{}, true, 0, impl.OK)
	}
}

func TestPairsScoreRefuses(t *testing.T) {
	for _, pairs := range [][][]int64{
		// The same index twice, the greater index first, and pairs in descending order.
		{{0, 0}}, {{5, 5}}, {{0, 1}, {0, 1}}, {{0, 1}, {0, 2}}, {{0, 1}, {1, 2}}, {{0, 2}, {1, 2}}, {{0, 3}, {1, 2}, {3, 4}}, {{0, 3}, {1, 2}, {2, 4}}, {{0, 1}, {2, 3}, {2, 4}}, {{1, 0}}, {{5, 0}}, {{0, 1}, {3, 2}}, {{1, 0}, {2, 3}}, {{2, 3}, {0, 1}}, {{1, 2}, {0, 3}}, {{0, 1}, {4, 5}, {2, 3}}, {{2, 5}, {1, 4}},
		// Pairs of another number of indices.
		{nil}, {{}}, {{0}}, {{0, 1, 2}}, {{0, 1}, {}}, {{}, {0, 1}}, {{0, 1}, {2}}, {{0}, {1, 2}}, {{0, 1}, {2, 3, 4}}, {{0, 1, 2}, {3, 4}}, {{0, 1}, nil}, {{0, 1, 2, 3}}, {slices.Repeat([]int64{1}, 100000)},
		// No indices of the list.
		{{-1, 0}}, {{0, -1}}, {{0, 6}}, {{6, 7}}, {{5, 6}}, {{6, 0}}, {{-2, -1}}, {{0, 1}, {2, 6}}, {{0, 1}, {-1, 2}}, {{-1, 1}, {2, 3}},
		// More pairs than leaves.
		{{0, 1}, {2, 3}, {4, 5}, {6, 7}}, slices.Repeat([][]int64{{0, 1}}, 7), slices.Repeat([][]int64{{0, 1}}, 100000), slices.Repeat([][]int64{nil}, 20), {{0, 1}, {0, 2}, {0, 3}, {0, 4}, {0, 5}, {1, 2}, {1, 3}},
	} {
		for _, book := range []bool{false, true} {
			checkPairsScore(t, leavesOf(6), pairs, book, 0, impl.ErrRange)
			checkPairsScore(t, nil, pairs, book, 0, impl.ErrRange)
			checkPairsScore(t, leavesOf(1), pairs, book, 0, impl.ErrRange)
			checkPairsScore(t, leavesOf(17), pairs, book, 0, impl.ErrInvalid)
		}
	}
	for _, far := range noIndices(6) {
		for _, pairs := range [][][]int64{{{far, 0}}, {{0, far}}, {{far, 5}}, {{5, far}}, {{far, far}}, {{0, 1}, {2, far}}, {{0, 1}, {far, 2}}, {{far, 1}, {2, 3}}, {{far, math.MaxInt64}}, {{math.MinInt64, far}}} {
			checkPairsScore(t, leavesOf(6), pairs, false, 0, impl.ErrRange)
		}
	}
}

// TestAllPairsOfPairs tries all lists of up to two pairs of four leaves, also with what are no indices.
func TestAllPairsOfPairs(t *testing.T) {
	for seed := range 6 {
		list, book := pairedLeaves(seed, 4), seed%2 == 0
		scores := scoresAsTold(list, book)
		for length := range 3 {
			forChoices(2*length, 6, func(choice []int64) bool {
				var pairs [][]int64
				for k := 0; k < len(choice); k += 2 {
					pairs = append(pairs, []int64{choice[k] - 1, choice[k+1] - 1})
				}
				if arePairsAsTold(4, pairs) {
					checkPairsScore(t, list, pairs, book, sumOf(scores, pairs), impl.OK)
				} else {
					checkPairsScore(t, list, pairs, book, 0, impl.ErrRange)
				}
				return true
			})
		}
	}
}

func checkGreedy(t *testing.T, list []impl.Leaf, book bool, want [][]int64) {
	t.Helper()
	got, code := impl.GreedyPairs(list, book)
	if !slices.EqualFunc(got, want, slices.Equal) || code != impl.OK || !arePairsAsTold(len(list), got) || len(got) != len(list)/2 {
		t.Fatalf("GreedyPairs(%v, %v) is %v, %d, want %v", list, book, got, code, want)
	}
	checkPairsScore(t, list, got, book, sumOf(scoresAsTold(list, book), want), impl.OK)
}

func TestGreedyPairs(t *testing.T) {
	for _, c := range []struct {
		numbers []int64
		want    [][]int64
	}{
		{nil, nil}, {[]int64{5}, nil}, {[]int64{5, 9}, [][]int64{{0, 1}}}, {[]int64{3, 4, 7}, [][]int64{{0, 1}}}, {[]int64{3, 7, 4}, [][]int64{{0, 2}}}, {[]int64{9, 4, 3}, [][]int64{{1, 2}}}, {[]int64{0, 50, 100}, [][]int64{{0, 1}}},
		// The pair with the least score comes first, but the pairs are in lexicographic order.
		{[]int64{0, 10, 11, 15}, [][]int64{{0, 3}, {1, 2}}}, {[]int64{0, 5, 5, 15}, [][]int64{{0, 3}, {1, 2}}}, {[]int64{0, 9, 2, 3}, [][]int64{{0, 1}, {2, 3}}}, {[]int64{9, 0, 2, 8}, [][]int64{{0, 3}, {1, 2}}},
		// Ties: the first pair in lexicographic order.
		{[]int64{5, 5, 5, 5}, [][]int64{{0, 1}, {2, 3}}}, {[]int64{5, 5, 5}, [][]int64{{0, 1}}}, {[]int64{1, 2, 3}, [][]int64{{0, 1}}}, {[]int64{3, 1, 2}, [][]int64{{0, 2}}}, {[]int64{2, 1, 3}, [][]int64{{0, 1}}}, {[]int64{1, 2, 3, 4}, [][]int64{{0, 1}, {2, 3}}}, {[]int64{2, 1, 3, 4}, [][]int64{{0, 1}, {2, 3}}}, {[]int64{2, 3, 1, 4}, [][]int64{{0, 1}, {2, 3}}},
		{[]int64{0, 100, 200, 300}, [][]int64{{0, 1}, {2, 3}}}, {[]int64{7, 0, 100, 7, 200}, [][]int64{{0, 3}, {1, 2}}}, {[]int64{0, 100, 1, 101, 2, 102}, [][]int64{{0, 2}, {1, 3}, {4, 5}}},
	} {
		for _, book := range []bool{false, true} {
			checkGreedy(t, numberedLeaves(c.numbers...), book, c.want)
		}
	}
	list := changedLeaves(numberedLeaves(1, 2, 3), func(list []impl.Leaf) { list[0].Veneer.Grain, list[1].Veneer.Grain, list[2].Veneer.Grain = 30, 30, 150 })
	checkGreedy(t, list, false, [][]int64{{0, 1}})
	checkGreedy(t, list, true, [][]int64{{1, 2}})
	// Two leaves that match well leave two that do not.
	list = numberedLeaves(0, 10, 11, 21)
	checkGreedy(t, list, false, [][]int64{{0, 3}, {1, 2}})
	checkBestPairs(t, list, false, paired{[][]int64{{0, 1}, {2, 3}}, 20, 2 + 1})
}

func TestGreedyPairsAreAsTold(t *testing.T) {
	for n := range 17 {
		for seed := range 20 {
			list, book := pairedLeaves(seed, n), (seed/2+n)%2 == 0
			checkGreedy(t, list, book, greedyAsTold(scoresAsTold(list, book)))
		}
	}
}

// checkBestPairs calls with all budgets at which the end of the search changes.
func checkBestPairs(t *testing.T, list []impl.Leaf, book bool, want paired) {
	t.Helper()
	for _, budget := range []int64{want.nodes - 1, want.nodes, want.nodes + 1, 0, 1, -1, impl.MaxBudget, impl.MaxBudget + 1, math.MinInt64, math.MaxInt64} {
		pairs, sum, code := impl.BestPairs(list, book, budget)
		end := fmt.Sprint(want.pairs, want.sum, impl.OK)
		if budget < 1 || budget > 20000 {
			end = fmt.Sprint([]int64{}, 0, impl.ErrRange)
		} else if want.nodes > budget {
			end = fmt.Sprint([]int64{}, 0, impl.ErrFull)
		}
		got := fmt.Sprint(pairs, sum, code)
		if got != end {
			t.Fatalf("BestPairs(%v, %v, %d) is %s, want %s", list, book, budget, got, end)
		}
		if code == impl.OK {
			checkPairsScore(t, list, pairs, book, sum, impl.OK)
			greedy, _ := impl.GreedyPairs(list, book)
			if other, _ := impl.PairsScore(list, greedy, book); sum > other || !arePairsAsTold(len(list), pairs) || len(pairs) != len(list)/2 {
				t.Fatalf("BestPairs(%v, %v, %d) is %s, but the greedy pairs %v have the sum %d", list, book, budget, got, greedy, other)
			}
		}
	}
}

// TestNodesOfBestPairs has nodes that are counted by hand.
func TestNodesOfBestPairs(t *testing.T) {
	for _, c := range []struct {
		numbers []int64
		want    paired
	}{
		// One leaf is left over, which is a node; without leaves there is none.
		{nil, paired{nil, 0, 0}}, {[]int64{5}, paired{nil, 0, 1}}, {[]int64{5, 9}, paired{[][]int64{{0, 1}}, 4, 1}}, {[]int64{5, 5}, paired{[][]int64{{0, 1}}, 0, 1}},
		// 0 and 1 with 2 left over have the score 1; 0 with 2 has more; 0 left over is a node, but then 1 with 2 has more.
		{[]int64{3, 4, 7}, paired{[][]int64{{0, 1}}, 1, 2 + 0 + 1}}, {[]int64{3, 7, 4}, paired{[][]int64{{0, 2}}, 1, 2 + 2 + 1}}, {[]int64{9, 4, 3}, paired{[][]int64{{1, 2}}, 1, 2 + 0 + 2}}, {[]int64{9, 3, 4}, paired{[][]int64{{1, 2}}, 1, 2 + 2 + 2}},
		// Ties: the first ones stay, and an equal sum is no node.
		{[]int64{1, 2, 3}, paired{[][]int64{{0, 1}}, 1, 2 + 0 + 1}}, {[]int64{1, 2, 3, 4}, paired{[][]int64{{0, 1}, {2, 3}}, 2, 2}}, {[]int64{1, 2, 2, 3}, paired{[][]int64{{0, 1}, {2, 3}}, 2, 2 + 1}}, {[]int64{1, 1, 2, 2}, paired{[][]int64{{0, 1}, {2, 3}}, 0, 2}},
		// A sum of 0 ends the search: no other choice is a node.
		{[]int64{5, 5, 5}, paired{[][]int64{{0, 1}}, 0, 2}}, {[]int64{5, 5, 5, 5}, paired{[][]int64{{0, 1}, {2, 3}}, 0, 2}}, {slices.Repeat([]int64{5}, 15), paired{[][]int64{{0, 1}, {2, 3}, {4, 5}, {6, 7}, {8, 9}, {10, 11}, {12, 13}}, 0, 8}}, {slices.Repeat([]int64{5}, 16), paired{[][]int64{{0, 1}, {2, 3}, {4, 5}, {6, 7}, {8, 9}, {10, 11}, {12, 13}, {14, 15}}, 0, 8}},
		{[]int64{1, 5, 1, 5}, paired{[][]int64{{0, 2}, {1, 3}}, 0, 2 + 2}}, {[]int64{1, 5, 5, 1}, paired{[][]int64{{0, 3}, {1, 2}}, 0, 2 + 1 + 2}}, {[]int64{1, 5, 5}, paired{[][]int64{{1, 2}}, 0, 2 + 0 + 2}},
		// All scores are 20: behind the first ways, a first pair is a node as long as it is less than the sum, and a second one is none.
		{[]int64{0, 40, 80, 120}, paired{[][]int64{{0, 1}, {2, 3}}, 40, 2 + 1 + 1}}, {[]int64{0, 40, 80}, paired{[][]int64{{0, 1}}, 20, 2 + 0 + 1}},
	} {
		for _, book := range []bool{false, true} {
			list := numberedLeaves(c.numbers...)
			checkBestPairs(t, list, book, c.want)
			if by := pairedInTurn(scoresAsTold(list, book), impl.MaxBudget); fmt.Sprint(by) != fmt.Sprint(c.want) {
				t.Errorf("%v has %v, want %v", c.numbers, by, c.want)
			}
		}
	}
}

// TestNodesOfEqualScores has even numbers of leaves, all of other flitches: after the first pairs all beginnings with fewer pairs are nodes.
func TestNodesOfEqualScores(t *testing.T) {
	for n := 2; n <= impl.MaxLeaves; n += 2 {
		list := changedLeaves(numberedLeaves(make([]int64, n)...), func(list []impl.Leaf) {
			for k := range list {
				list[k].Flitch = letter(k)
			}
		})
		want := paired{sum: int64(500 * n / 2), nodes: 1}
		ways := int64(1)
		for left := n; left > 2; left -= 2 {
			ways *= int64(left - 1)
			want.nodes += ways
		}
		for k := 0; k < n; k += 2 {
			want.pairs = append(want.pairs, []int64{int64(k), int64(k + 1)})
		}
		checkBestPairs(t, list, false, want)
		if n == 12 && want.nodes != 11+99+693+3465+10395+1 || n == 14 && want.nodes <= impl.MaxBudget {
			t.Errorf("%d leaves have %d nodes", n, want.nodes)
		}
	}
}

// TestBestPairsAreTheBestOnes is promise 11 for pairs, with all ways to pair small lists.
func TestBestPairsAreTheBestOnes(t *testing.T) {
	better, zero, late := 0, 0, 0
	for n := range 9 {
		for seed := range 70 {
			list, book := pairedLeaves(seed, n), (seed/2+n)%2 == 0
			scores := scoresAsTold(list, book)
			want := allPaired(scores)
			checkBestPairs(t, list, book, want)
			if want.sum < sumOf(scores, greedyAsTold(scores)) {
				better++
			}
			if n > 1 && want.sum == 0 {
				zero++
			}
			if n%2 == 1 && len(slices.Concat(want.pairs...)) > 0 && want.pairs[0][0] > 0 {
				late++
			}
		}
	}
	if better < 20 || zero < 10 || late < 10 {
		t.Errorf("%d lists are better paired than greedily, %d have the sum 0, and of %d the first leaf is left over", better, zero, late)
	}
}

// TestBestPairsOfManyLeaves goes up to the greatest number of leaves, and to more nodes than any budget.
func TestBestPairsOfManyLeaves(t *testing.T) {
	ends := map[bool]int{}
	for n := 9; n <= impl.MaxLeaves; n++ {
		for seed := range 20 {
			list, book := pairedLeaves(seed+40, n), (seed/2+n)%2 == 0
			want := pairedInTurn(scoresAsTold(list, book), impl.MaxBudget)
			checkBestPairs(t, list, book, want)
			ends[want.nodes > impl.MaxBudget]++
		}
	}
	if ends[true] < 5 || ends[false] < 50 {
		t.Errorf("searches that are too long, and that are not: %v", ends)
	}
}

func TestInvalidListsHaveNoPairs(t *testing.T) {
	forBadLists(func(reason string, list []impl.Leaf) {
		for _, book := range []bool{false, true} {
			for _, pairs := range [][][]int64{nil, {{0, 1}}, {{1, 0}}, {{0}}} {
				if score, code := impl.PairsScore(list, pairs, book); score != 0 || code != impl.ErrInvalid {
					t.Errorf("%s: PairsScore is %d, %d", reason, score, code)
				}
			}
			if pairs, code := impl.GreedyPairs(list, book); len(pairs) != 0 || code != impl.ErrInvalid {
				t.Errorf("%s: GreedyPairs is %v, %d", reason, pairs, code)
			}
			for _, budget := range []int64{1, 0, -1, impl.MaxBudget, impl.MaxBudget + 1} {
				if pairs, sum, code := impl.BestPairs(list, book, budget); len(pairs) != 0 || sum != 0 || code != impl.ErrInvalid {
					t.Errorf("%s: BestPairs is %v, %d, %d", reason, pairs, sum, code)
				}
			}
		}
	})
}
