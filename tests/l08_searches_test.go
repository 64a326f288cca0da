package tests

import (
	"fmt"
	"math"
	"slices"
	"testing"

	"loop.example/g00956/impl"
)

// found is the end of a search that has no budget.
type found struct {
	choice []int64
	number int64
	nodes  int64
	ok     bool
}

// forChoices calls check with all lists of n indices of a palette, in lexicographic order, until it returns false.
func forChoices(n, veneers int, check func(choice []int64) bool) {
	choice := make([]int64, n)
	for {
		if !check(choice) {
			return
		}
		k := n - 1
		for k >= 0 && choice[k] == int64(veneers-1) {
			choice[k] = 0
			k--
		}
		if k < 0 {
			return
		}
		choice[k]++
	}
}

// contrastsOf are those of all pairs of veneers.
func contrastsOf(palette []impl.Veneer) [][]int64 {
	table := make([][]int64, len(palette))
	for i, v := range palette {
		for _, w := range palette {
			table[i] = append(table[i], contrastAsTold(v, w))
		}
	}
	return table
}

// leastAsTold is the least contrast of neighbours among the first faces, which have a choice; 115 if there are none.
func leastAsTold(pairs, contrasts [][]int64, choice []int64) int64 {
	least := int64(115)
	for _, pair := range pairs {
		if pair[1] < int64(len(choice)) {
			least = min(least, contrasts[choice[pair[0]]][choice[pair[1]]])
		}
	}
	return least
}

func differentIndices(choice []int64) int {
	n := 0
	for k, index := range choice {
		if !slices.Contains(choice[:k], index) {
			n++
		}
	}
	return n
}

// allAsTold looks at all choices for a small drawing: the nodes are those choices for the first faces that keep the limit, have at most that number of different indices, and are not behind the coloring that is found.
func allAsTold(d impl.Drawing, palette []impl.Veneer, limit int64, different int) found {
	pairs, contrasts, n := pairsAsTold(d), contrastsOf(palette), len(d.Faces)
	var end found
	keeps := func(choice []int64) bool {
		return leastAsTold(pairs, contrasts, choice) >= limit && differentIndices(choice) <= different
	}
	forChoices(n, len(palette), func(choice []int64) bool {
		end.ok = keeps(choice)
		if end.ok {
			end.choice = slices.Clone(choice)
		}
		return !end.ok
	})
	for length := 1; length <= n; length++ {
		forChoices(length, len(palette), func(choice []int64) bool {
			if end.ok && slices.Compare(choice, end.choice[:length]) > 0 {
				return false
			}
			if keeps(choice) {
				end.nodes++
			}
			return true
		})
	}
	return end
}

// inTurnAsTold goes on and back face by face, for drawings of any size, up to a number of nodes.
func inTurnAsTold(d impl.Drawing, palette []impl.Veneer, limit int64, different int, most int64) found {
	pairs, contrasts := pairsAsTold(d), contrastsOf(palette)
	var choice []int64
	var end found
	next := int64(0)
	for len(choice) < len(d.Faces) && end.nodes <= most {
		last := len(choice) - 1
		if next == int64(len(palette)) {
			if last < 0 {
				return end
			}
			next, choice = choice[last]+1, choice[:last]
			continue
		}
		choice = append(choice, next)
		if leastAsTold(pairs, contrasts, choice) >= limit && differentIndices(choice) <= different {
			end.nodes++
			next = 0
		} else {
			choice = choice[:last+1]
			next++
		}
	}
	end.choice, end.ok = choice, true
	return end
}

// search is one of both ways above.
type search func(d impl.Drawing, palette []impl.Veneer, limit int64, different int) found

func inTurn(d impl.Drawing, palette []impl.Veneer, limit int64, different int) found {
	return inTurnAsTold(d, palette, limit, different, impl.MaxBudget)
}

func firstAsTold(d impl.Drawing, palette []impl.Veneer, limit int64, by search) found {
	return by(d, palette, limit, len(palette))
}

func fewestAsTold(d impl.Drawing, palette []impl.Veneer, limit int64, by search) found {
	nodes := int64(0)
	for different := 0; different <= len(palette); different++ {
		end := by(d, palette, limit, different)
		if nodes += end.nodes; end.ok {
			return found{end.choice, int64(differentIndices(end.choice)), nodes, true}
		}
	}
	return found{nodes: nodes}
}

func bestAsTold(d impl.Drawing, palette []impl.Veneer, by search) found {
	nodes := int64(0)
	for limit := int64(115); limit >= 0 && nodes <= impl.MaxBudget; limit-- {
		end := by(d, palette, limit, len(palette))
		if nodes += end.nodes; end.ok {
			return found{end.choice, leastAsTold(pairsAsTold(d), contrastsOf(palette), end.choice), nodes, true}
		}
	}
	return found{nodes: nodes}
}

// atBudget is what a search returns with a budget.
func (f found) atBudget(budget int64) string {
	switch {
	case budget < 1 || budget > 20000:
		return fmt.Sprint([]int64{}, 0, impl.ErrRange)
	case f.nodes > budget:
		return fmt.Sprint([]int64{}, 0, impl.ErrFull)
	case !f.ok:
		return fmt.Sprint([]int64{}, 0, impl.ErrNotFound)
	}
	return fmt.Sprint(f.choice, f.number, impl.OK)
}

// budgets are at the limits, and just at the number of nodes.
func (f found) budgets() []int64 {
	return []int64{0, 1, f.nodes - 1, f.nodes, f.nodes + 1, impl.MaxBudget, impl.MaxBudget + 1}
}

// checkFound calls with all budgets at which the end of a search changes.
func checkFound(t *testing.T, what string, f found, colored func(budget int64) ([]int64, int64, int64)) {
	t.Helper()
	for _, budget := range f.budgets() {
		choice, number, code := colored(budget)
		if got, want := fmt.Sprint(choice, number, code), f.atBudget(budget); got != want {
			t.Fatalf("%s with the budget %d is %s, want %s", what, budget, got, want)
		}
	}
}

func checkFirst(t *testing.T, d impl.Drawing, palette []impl.Veneer, limit int64, f found) {
	t.Helper()
	checkFound(t, fmt.Sprint("FirstColoring ", d, palette, limit), f, func(budget int64) ([]int64, int64, int64) {
		choice, code := impl.FirstColoring(d, palette, limit, budget)
		return choice, 0, code
	})
}

func checkFewest(t *testing.T, d impl.Drawing, palette []impl.Veneer, limit int64, f found) {
	t.Helper()
	checkFound(t, fmt.Sprint("FewestVeneers ", d, palette, limit), f, func(budget int64) ([]int64, int64, int64) {
		return impl.FewestVeneers(d, palette, limit, budget)
	})
}

func checkBest(t *testing.T, d impl.Drawing, palette []impl.Veneer, f found) {
	t.Helper()
	checkFound(t, fmt.Sprint("BestColoring ", d, palette), f, func(budget int64) ([]int64, int64, int64) {
		return impl.BestColoring(d, palette, budget)
	})
}

// checkColorings calls all functions that search.
func checkColorings(t *testing.T, d impl.Drawing, palette []impl.Veneer, limit int64, by search) {
	t.Helper()
	first := firstAsTold(d, palette, limit, by)
	checkFirst(t, d, palette, limit, first)
	checkFewest(t, d, palette, limit, fewestAsTold(d, palette, limit, by))
	checkBest(t, d, palette, bestAsTold(d, palette, by))
	if first.ok && first.nodes <= impl.MaxBudget && !impl.IsColoring(d, palette, limit, first.choice) {
		t.Fatalf("the first coloring of %v for %v and %d is %v, and is none", d, palette, limit, first.choice)
	}
}

// palettes have all numbers of veneers up to the greatest one, some of them twice.
func palettes(seed int) [][]impl.Veneer {
	good := goodVeneers()
	var all [][]impl.Veneer
	for n := 1; n <= impl.MaxPalette; n++ {
		var list []impl.Veneer
		for k := range n {
			list = append(list, good[(seed*17+k*(seed%5*29+41))%len(good)])
		}
		if n > 2 && seed%3 == 0 {
			list[n-1] = list[0]
		}
		all = append(all, list)
	}
	return all
}

// smallDrawings have up to five faces, with and without neighbours.
func smallDrawings() []impl.Drawing {
	var all []impl.Drawing
	for _, text := range slices.Concat(coverTexts, looseTexts, neighbourTexts) {
		if d := draw(text); len(d.Faces) <= 5 {
			all = append(all, d)
		}
	}
	return append(all, mesh(2, 2, 20), mesh(1, 2, 20), crowd(3), crowd(4), drawingOf(strip(8)))
}

var limits = []int64{0, 1, 5, 10, 20, 35, 60, 90, 115}

// TestColoringsAreTheBestOnes is promise 9 for colorings.
func TestColoringsAreTheBestOnes(t *testing.T) {
	ends := map[bool]int{}
	for seed, d := range smallDrawings() {
		if len(d.Faces) > 4 {
			d.Faces = d.Faces[:4]
		}
		for _, palette := range palettes(seed)[:4] {
			limit := limits[(seed+len(palette)*4)%len(limits)]
			checkColorings(t, d, palette, limit, allAsTold)
			ends[firstAsTold(d, palette, limit, allAsTold).ok]++
		}
	}
	if ends[true] < 60 || ends[false] < 20 {
		t.Errorf("colorings that are found and that are not: %v", ends)
	}
}

// TestSearchesAreAsTold has drawings of all sizes, palettes of all lengths, and limits at which there are just colorings, and just none.
func TestSearchesAreAsTold(t *testing.T) {
	ends := map[string]int{}
	all := append(smallDrawings(), mesh(3, 2, 20), renumbered(mesh(3, 3, 30), 4), fullMesh(), mesh(4, 4, 20), draw(coverTexts[6]), crowd(7), wheel(9), wheel(23), crowd(12), crowd(24))
	for seed, d := range all {
		for n, palette := range palettes(seed + 5) {
			if (seed+n)%3 > 0 {
				continue
			}
			best := bestAsTold(d, palette, inTurn).number
			for _, limit := range []int64{limits[(seed*2+n)%len(limits)], max(1, best), best + 1} {
				if limit <= impl.MaxContrast {
					checkColorings(t, d, palette, limit, inTurn)
					ends[firstAsTold(d, palette, limit, inTurn).kind()]++
				}
			}
		}
	}
	if ends["full"] < 4 || ends["none"] < 100 || ends["back"] < 20 || ends["straight"] < 100 {
		t.Errorf("ends of the searches: %v", ends)
	}
}

func (f found) kind() string {
	switch {
	case f.nodes > impl.MaxBudget:
		return "full"
	case !f.ok:
		return "none"
	case f.nodes > int64(len(f.choice)):
		return "back"
	}
	return "straight"
}

// wheel has n triangles around a point, so that each one has two neighbours, the last one also the first one.
func wheel(n int) impl.Drawing {
	const middle = 500
	d := impl.Drawing{Width: 2 * middle, Height: 2 * middle, Points: []impl.Point{pt(middle, middle)}}
	for k := range n {
		angle := 2 * math.Pi * float64(k) / float64(n)
		d.Points = append(d.Points, pt(middle+int64(middle*math.Cos(angle)), middle+int64(middle*math.Sin(angle))))
		d.Faces = append(d.Faces, impl.Face{Name: letter(k), Ring: []int64{0, int64(k + 1), int64((k+1)%n + 1)}})
	}
	return d
}
