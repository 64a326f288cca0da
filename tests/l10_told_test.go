package tests

import (
	"fmt"
	"slices"
	"testing"

	"loop.example/g00956/impl"
)

// pairedLeaves returns n leaves of few flitches with few Numbers, so that many scores are equal; with seeds that are multiples of four all veneers are equal.
func pairedLeaves(seed, n int) []impl.Leaf {
	next := dice(seed)
	return changedLeaves(leavesOf(n), func(list []impl.Leaf) {
		for k := range list {
			l, w := &list[k], woods[int(next(2))*seed%7]
			l.Flitch, l.Number, l.Veneer = letter(int(next(int64(1+seed%3))))+"1", next([]int64{3, 8, 30, 1000}[seed/4%4]), veneer("oak", 40, 0)
			if seed%4 > 0 {
				l.Veneer = veneer(w.name, w.shade, []int64{0, 45, 90, 135, 1, 179}[next(6)])
			}
			if seed%4 > 1 {
				l.Veneer.Shade += next(4) - 1
				l.Veneer.Grain = next(180)
			}
		}
	})
}

// numberedLeaves are leaves of the flitch one with some Numbers, and equal veneers with the grain 0.
func numberedLeaves(numbers ...int64) []impl.Leaf {
	return changedLeaves(leavesOf(len(numbers)), func(list []impl.Leaf) {
		for k := range list {
			list[k].Flitch, list[k].Number, list[k].Veneer = "one", numbers[k], veneer("oak", 40, 0)
		}
	})
}

// withFlitches changes the flitches of all leaves.
func withFlitches(list []impl.Leaf, flitches ...string) []impl.Leaf {
	return changedLeaves(list, func(list []impl.Leaf) {
		for k := range list {
			list[k].Flitch = flitches[k]
		}
	})
}

// mirrorAsTold looks for the direction with which that of the leaf makes a half turn.
func mirrorAsTold(l impl.Leaf) impl.Leaf {
	return changedLeaf(l, func(m *impl.Leaf) {
		for k, d := range l.Defects {
			m.Defects[k].X = l.Width - d.X - d.Width
		}
		for m.Veneer.Grain = 0; (m.Veneer.Grain+l.Veneer.Grain)%180 != 0; {
			m.Veneer.Grain++
		}
	})
}

func scoreAsTold(a, b impl.Leaf, book bool) int64 {
	if book {
		b = mirrorAsTold(b)
	}
	score := angleAsTold(a.Veneer.Grain, b.Veneer.Grain)
	for range 3 {
		score += magnitudeOf(a.Veneer.Shade - b.Veneer.Shade)
	}
	if a.Veneer.Species != b.Veneer.Species {
		score += 500
	}
	apart := magnitudeOf(a.Number - b.Number)
	switch {
	case a.Flitch != b.Flitch:
		return score + 500
	case apart > 20:
		return score + 20
	}
	return score + apart
}

func scoresAsTold(list []impl.Leaf, book bool) [][]int64 {
	table := make([][]int64, len(list))
	for i, a := range list {
		for _, b := range list {
			table[i] = append(table[i], scoreAsTold(a, b, book))
		}
	}
	return table
}

// matchAsTold goes through the scores from 0 on; it returns -1 if there is no other leaf.
func matchAsTold(scores [][]int64, k int) (leaf, score int64) {
	if len(scores) < 2 {
		return -1, 0
	}
	for ; ; score++ {
		for i, s := range scores[k] {
			if i != k && s == score {
				return int64(i), score
			}
		}
	}
}

func isSequenceAsTold(list []impl.Leaf, chosen []int64) bool {
	for n, k := range chosen {
		if k < 0 || k >= int64(len(list)) || list[k].Flitch != list[chosen[0]].Flitch || list[k].Number != list[chosen[0]].Number+int64(n) {
			return false
		}
	}
	return len(chosen) > 0
}

// firstWith returns the first leaf of a flitch with a Number, and -1 if there is none.
func firstWith(list []impl.Leaf, flitch string, number int64) int64 {
	return int64(slices.IndexFunc(list, func(l impl.Leaf) bool { return l.Flitch == flitch && l.Number == number }))
}

// runAsTold tries each Number as the first one.
func runAsTold(list []impl.Leaf, flitch string) []int64 {
	var longest []int64
	for first := range int64(1000) {
		var run []int64
		for number := first; firstWith(list, flitch, number) >= 0; number++ {
			run = append(run, firstWith(list, flitch, number))
		}
		if len(run) > len(longest) {
			longest = run
		}
	}
	return longest
}

// missingAsTold looks for a leaf with a lesser Number and one with a greater one.
func missingAsTold(list []impl.Leaf, flitch string) []int64 {
	var missing []int64
	for number := range int64(1000) {
		has := func(isSuch func(other int64) bool) bool {
			return slices.ContainsFunc(list, func(l impl.Leaf) bool { return l.Flitch == flitch && isSuch(l.Number) })
		}
		if has(func(other int64) bool { return other < number }) && has(func(other int64) bool { return other > number }) && !has(func(other int64) bool { return other == number }) {
			missing = append(missing, number)
		}
	}
	return missing
}

// bookAsTold asks for each leaf in the order of its flitch whether it is in a pair.
func bookAsTold(list []impl.Leaf, flitch string) [][]int64 {
	var pairs [][]int64
	order, isPaired := flitchAsTold(list, flitch), map[int64]bool{}
	for n := range order {
		if isPaired[order[n]] || n+1 == len(order) || list[order[n+1]].Number-list[order[n]].Number != 1 {
			continue
		}
		isPaired[order[n]], isPaired[order[n+1]] = true, true
		pairs = append(pairs, order[n:n+2])
	}
	return pairs
}

// arePairsAsTold compares pairs with those among all pairs, in lexicographic order, that they contain.
func arePairsAsTold(leaves int, pairs [][]int64) bool {
	next, isTaken := 0, map[int64]bool{}
	for i := range int64(leaves) {
		for k := i + 1; k < int64(leaves); k++ {
			if next < len(pairs) && slices.Equal(pairs[next], []int64{i, k}) && !isTaken[i] && !isTaken[k] {
				isTaken[i], isTaken[k] = true, true
				next++
			}
		}
	}
	return next == len(pairs)
}

func sumOf(scores [][]int64, pairs [][]int64) int64 {
	var sum int64
	for _, p := range pairs {
		sum += scores[p[0]][p[1]]
	}
	return sum
}

// greedyAsTold goes through all pairs of leaves that are left, again and again.
func greedyAsTold(scores [][]int64) [][]int64 {
	var pairs [][]int64
	isTaken := make([]bool, len(scores))
	for left := len(scores); left >= 2; left -= 2 {
		var best []int64
		for i := range scores {
			for k := range i {
				p := []int64{int64(k), int64(i)}
				if isTaken[k] || isTaken[i] {
					continue
				}
				if best == nil || sumOf(scores, [][]int64{p}) < sumOf(scores, [][]int64{best}) || sumOf(scores, [][]int64{p}) == sumOf(scores, [][]int64{best}) && slices.Compare(p, best) < 0 {
					best = p
				}
			}
		}
		isTaken[best[0]], isTaken[best[1]] = true, true
		pairs = append(pairs, best)
	}
	slices.SortFunc(pairs, slices.Compare)
	return pairs
}

// choicesAsTold returns all ways to pair n leaves, in the order of the search: each one is a list of pairs, and of the leaf that is left over, alone.
func choicesAsTold(n int) [][][]int64 {
	ways := [][][]int64{nil}
	for range (n + 1) / 2 {
		var longer [][][]int64
		for _, way := range ways {
			var left []int64
			for k := range int64(n) {
				if !slices.Contains(slices.Concat(way...), k) {
					left = append(left, k)
				}
			}
			for _, k := range left[1:] {
				longer = append(longer, append(slices.Clone(way), []int64{left[0], k}))
			}
			if len(left)%2 == 1 {
				longer = append(longer, append(slices.Clone(way), left[:1]))
			}
		}
		ways = longer
	}
	return ways
}

// paired is the end of a search for pairs that has no budget.
type paired struct {
	pairs      [][]int64
	sum, nodes int64
}

// pairsAmong leaves out the leaf that is alone.
func pairsAmong(choices [][]int64) [][]int64 {
	var pairs [][]int64
	for _, c := range choices {
		if len(c) == 2 {
			pairs = append(pairs, c)
		}
	}
	return pairs
}

// allPaired looks at all ways to pair few leaves. The nodes are the beginnings of ways whose sums are less than the least one before.
func allPaired(scores [][]int64) paired {
	end := paired{sum: 1 << 62}
	isNode := map[string]bool{}
	for _, way := range choicesAsTold(len(scores)) {
		isPruned := false
		for n := range way {
			begin := fmt.Sprint(way[:n+1])
			isPruned = isPruned || !isNode[begin] && sumOf(scores, pairsAmong(way[:n+1])) >= end.sum
			if !isPruned {
				isNode[begin] = true
			}
		}
		if pairs := pairsAmong(way); !isPruned && sumOf(scores, pairs) < end.sum {
			end.pairs, end.sum = pairs, sumOf(scores, pairs)
		}
	}
	end.nodes = int64(len(isNode))
	return end
}

// pairedInTurn goes on and back choice by choice, for any number of leaves, up to a number of nodes.
func pairedInTurn(scores [][]int64, most int64) paired {
	end := paired{sum: 1 << 62}
	n := int64(len(scores))
	var way [][]int64
	left := func() (list []int64) {
		taken := slices.Concat(way...)
		for k := range n {
			if !slices.Contains(taken, k) {
				list = append(list, k)
			}
		}
		return list
	}
	// next is the place, among the leaves that are left, of the partner to try next; the first one stands for none.
	for next := 1; end.nodes <= most; {
		list := left()
		if len(list) > 0 && next <= len(list) && (next < len(list) || len(list)%2 == 1) {
			choice := []int64{list[0]}
			if next < len(list) {
				choice = append(choice, list[next])
			}
			next++
			if sumOf(scores, pairsAmong(append(slices.Clone(way), choice))) < end.sum {
				end.nodes++
				way, next = append(way, choice), 1
			}
			continue
		}
		if len(list) == 0 && sumOf(scores, pairsAmong(way)) < end.sum {
			end.pairs, end.sum = pairsAmong(slices.Clone(way)), sumOf(scores, pairsAmong(way))
		}
		if len(way) == 0 {
			return end
		}
		last := way[len(way)-1]
		way = way[:len(way)-1]
		list = left()
		next = len(list) + 1
		if len(last) == 2 {
			next = slices.Index(list, last[1]) + 1
		}
	}
	return end
}

// TestBothSearchesForPairsAgree examines the searches with which BestPairs is compared.
func TestBothSearchesForPairsAgree(t *testing.T) {
	for n := range 9 {
		for seed := range 30 {
			scores := scoresAsTold(pairedLeaves(seed, n), seed%3 == 0)
			if all, turns := allPaired(scores), pairedInTurn(scores, 1<<40); fmt.Sprint(all) != fmt.Sprint(turns) {
				t.Fatalf("for %v all are %v, and in turn %v", scores, all, turns)
			}
		}
	}
	for n, want := range []int{1, 1, 1, 3, 3, 15, 15, 105, 105} {
		if got := len(choicesAsTold(n)); got != want {
			t.Errorf("%d leaves have %d ways to be paired, want %d", n, got, want)
		}
	}
}
