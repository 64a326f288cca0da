package tests

import (
	"fmt"
	"math"
	"slices"
	"testing"

	"loop.example/g00956/impl"
)

// boundArguments are those of all functions of chapter 12.
type boundArguments struct {
	d             impl.Drawing
	list          []impl.Leaf
	p             []impl.Point
	l             impl.Leaf
	areas, usable []int64
	sizes         [][]int64
	width, length int64
}

// boundResults calls every function of chapter 12.
func boundResults(a boundArguments) string {
	areas, areasCode := impl.FaceAreas(a.d)
	turns, turnsCode := impl.TurnsThatFit(a.p, a.l)
	unfit, unfitCode := impl.UnfitFaces(a.d, a.list)
	bound, boundCode := impl.AreaBound(a.areas, a.usable)
	leaves, leavesCode := impl.LeavesBound(a.d, a.list)
	plan, planCode := impl.ShelfPlan(a.sizes, a.width, a.length)
	shelves, shelvesCode := impl.ShelfLeaves(a.sizes, a.width, a.length)
	boxes, boxesCode := impl.BoxesBound(a.sizes, a.width, a.length)
	offcuts, offcutsCode := impl.OffcutsOf(a.l, a.p)
	text := fmt.Sprint(areas, areasCode, impl.FitsLeaf(a.p, a.l), turns, turnsCode, unfit, unfitCode, bound, boundCode, leaves, leavesCode)
	return text + fmt.Sprint(impl.EnoughStock(a.d, a.list), plan, planCode, shelves, shelvesCode, boxes, boxesCode, offcuts, offcutsCode)
}

// withMarks is a copy of the arguments with marks behind all slices; whole returns all of it, with the marks.
func (a boundArguments) withMarks() (spare boundArguments, whole func() string) {
	spare = a
	d, wholeDrawing := drawingWithSpare(a.d)
	spare.d, spare.list, spare.l = d, leavesWithSpare(a.list), leafWithSpare(a.l)
	spare.p = withSpare(a.p, pt(-7, 77))[:len(a.p)]
	spare.areas, spare.usable, spare.sizes = numbersWithSpare(a.areas), numbersWithSpare(a.usable), pairsWithSpare(a.sizes)
	return spare, func() string {
		numbers := allOfPairs([][]int64{spare.areas, spare.usable}) + allOfPairs(spare.sizes)
		return wholeDrawing() + allOfLeaves(spare.list) + allOfLeaves([]impl.Leaf{spare.l}) + fmt.Sprint(spare.p[:cap(spare.p)]) + numbers
	}
}

func (a boundArguments) copied() boundArguments {
	a.d, a.list, a.l, a.p = copyOf(a.d), copyOfLeaves(a.list), copyOfLeaf(a.l), slices.Clip(slices.Clone(a.p))
	a.areas, a.usable, a.sizes = slices.Clip(slices.Clone(a.areas)), slices.Clip(slices.Clone(a.usable)), copyOfPairs(a.sizes)
	return a
}

// checkSameBoundsAgain calls with arguments that have marks behind their slices, and with copies that have none.
func checkSameBoundsAgain(t *testing.T, a boundArguments) {
	t.Helper()
	spare, whole := a.withMarks()
	before := whole()
	first := boundResults(spare)
	second := boundResults(a.copied())
	third := boundResults(spare)
	if first != second || first != third {
		t.Fatalf("%.500v: %.500s and then %.500s and %.500s", fmt.Sprint(a), first, second, third)
	}
	if before != whole() {
		t.Fatalf("%.500v: an argument or what lies behind a slice is changed", fmt.Sprint(a))
	}
}

// boundCall has arguments of all kinds, others for each seed.
func boundCall(seed int) boundArguments {
	next := dice(seed + 12)
	drawings := []impl.Drawing{draw(coverTexts[seed%len(coverTexts)]), draw(looseTexts[seed%len(looseTexts)]), blocks(int(next(24))).Drawing, smallNest(seed).pic.Drawing}
	a := boundArguments{d: drawings[seed%4], list: leavesOf(seed % 17), p: poly(goodTexts[seed%len(goodTexts)]), l: farLeaf(seed), width: 1 + next(300), length: 1 + next(300)}
	if seed%3 == 0 {
		a.list, a.l = oakLeaves(10+next(60), 10+next(60), 10+next(300), 40, 25, 25), leafOf(10+next(40), 10+next(40))
	}
	for range next(66) {
		a.areas, a.usable = append(a.areas, next(1000)), append(a.usable, next(1000))
	}
	a.sizes = someSizes(seed, a.width, a.length)
	return a
}

func TestBoundsAreTheSameAgain(t *testing.T) {
	for seed := range 600 {
		checkSameBoundsAgain(t, boundCall(seed))
	}
	for n, d := range goodDrawings() {
		a := boundCall(n)
		a.d, a.p = d, goodPolygons()[n%40]
		checkSameBoundsAgain(t, a)
	}
	base := boundCall(3)
	forBadDrawings(func(_ string, d impl.Drawing) {
		if len(d.Points)+len(d.Faces) < 1000 {
			a := base
			a.d = d
			checkSameBoundsAgain(t, a)
		}
	})
	forPlentyOfLeaves(func(n int, l impl.Leaf, list []impl.Leaf) {
		a := base
		a.l, a.list, a.p = l, list, poly(goodTexts[n%len(goodTexts)])
		checkSameBoundsAgain(t, a)
	})
	forBadPolygons(func(_ string, p []impl.Point) {
		a := base
		a.p = p
		checkSameBoundsAgain(t, a)
	})
}

// TestFarNumbersInBounds puts far numbers into each two numbers of the arguments.
func TestFarNumbersInBounds(t *testing.T) {
	far := append([]int64{10, impl.MaxValue, impl.MaxValue + 1}, farCoordinates...)
	for _, n := range far {
		for _, m := range far {
			a := boundArguments{d: draw(coverTexts[0]), list: givenLeaves(), p: poly("0,0 40,0 40,20 0,20"), l: leafOf(50, 40, box(5, 5, 10, 10)), areas: []int64{5, 6, 7}, usable: []int64{9, 1}, sizes: sizesOf("30x20 5x40 7x8"), width: 60, length: 50}
			places := append(numbersOf(&a.d), &a.width, &a.length, &a.p[0].X, &a.p[1].Y, &a.p[2].X, &a.l.Width, &a.l.Length, &a.l.Number, &a.l.Defects[0].X, &a.l.Defects[0].Length, &a.list[0].Width, &a.list[1].Length, &a.list[1].Defects[0].Width, &a.areas[0], &a.areas[2], &a.usable[0], &a.usable[1])
			for k := range a.sizes {
				places = append(places, &a.sizes[k][0], &a.sizes[k][1])
			}
			for k, place := range places {
				next := places[(k+int(magnitudeOf(m%11))+1)%len(places)]
				kept, keptNext := *place, *next
				*place = n
				if n == m {
					checkSameBoundsAgain(t, a)
				}
				*next = m
				checkSameBoundsAgain(t, a)
				*next, *place = keptNext, kept
			}
		}
	}
}

// TestFarListsInBounds has far numbers in all places of lists with all lengths.
func TestFarListsInBounds(t *testing.T) {
	size := len(farCoordinates)
	base := boundCall(8)
	for n := range 70 {
		for seed := range size * 3 {
			far := func(k int) int64 { return farCoordinates[(seed+k*k+3*k)%size] }
			a := base
			a.areas, a.usable, a.sizes, a.width, a.length = nil, nil, nil, far(1), far(2)
			for k := range n {
				a.areas, a.usable = append(a.areas, far(k)), append(a.usable, far(k+seed/size))
			}
			for k := range n % 27 {
				list := []int64{far(k), far(k + 1), far(k + 2)}
				a.sizes = append(a.sizes, list[:2-k%7/6+k%11/10])
			}
			if seed%2 == 0 {
				a.width, a.length = most, most
			}
			checkSameBoundsAgain(t, a)
		}
	}
	forFarLists(func(p []impl.Point, x, y int64) {
		if len(p) < 9 {
			l := leafOf(50, 50)
			l.Width, l.Length = magnitudeOf(x%50)+10, y
			turns, code := impl.TurnsThatFit(p, l)
			offcuts, offcutsCode := impl.OffcutsOf(l, p)
			if fits := impl.FitsLeaf(p, l); fits != (len(turns) > 0) || fits != (offcutsCode == impl.OK) || code != impl.OK && code != impl.ErrInvalid || len(offcuts) > 2 {
				t.Fatalf("%v and %v: %v, %d and %v, %d", p, l, turns, code, offcuts, offcutsCode)
			}
		}
	})
}

func TestNilAndEmptyBoundsAreEquivalent(t *testing.T) {
	for _, sides := range [][2]int64{{0, 0}, {1, 1}, {100, 100}} {
		base := boundArguments{d: draw("10x10;"), l: leafOf(10, 10), width: sides[0], length: sides[1]}
		empty := base
		empty.d.Points, empty.d.Faces, empty.l.Defects = []impl.Point{}, []impl.Face{}, []impl.Box{}
		empty.list, empty.p, empty.areas, empty.usable, empty.sizes = []impl.Leaf{}, []impl.Point{}, []int64{}, []int64{}, [][]int64{}
		if first, second := boundResults(base), boundResults(empty); first != second {
			t.Errorf("%s and then %s", first, second)
		}
		base.sizes, empty.sizes = [][]int64{nil}, [][]int64{{}}
		if first, second := boundResults(base), boundResults(empty); first != second {
			t.Errorf("%s and then %s", first, second)
		}
	}
}

// boundLists are the functions that return lists of numbers.
var boundLists = map[string]func(a boundArguments) [][]int64{
	"FaceAreas":    func(a boundArguments) [][]int64 { list, _ := impl.FaceAreas(a.d); return [][]int64{list} },
	"TurnsThatFit": func(a boundArguments) [][]int64 { list, _ := impl.TurnsThatFit(a.p, a.l); return [][]int64{list} },
	"UnfitFaces":   func(a boundArguments) [][]int64 { list, _ := impl.UnfitFaces(a.d, a.list); return [][]int64{list} },
	"ShelfPlan":    func(a boundArguments) [][]int64 { plan, _ := impl.ShelfPlan(a.sizes, a.width, a.length); return plan },
}

// fillBounds writes into all memory of the arguments.
func (a boundArguments) fillBounds(mark int64) {
	fillDrawing(a.d, mark)
	fillLeaves(a.list, mark)
	fillBoxes(a.l.Defects, mark)
	fill(a.p[:cap(a.p)])
	for _, list := range append(a.sizes[:cap(a.sizes)], a.areas, a.usable) {
		overwrite(elementsOf(list), mark)
	}
}

// TestListsOfBoundsAreNewMemory writes a mark of its own into each list of a result, then into the list of lists, and over the arguments.
func TestListsOfBoundsAreNewMemory(t *testing.T) {
	for what, lists := range boundLists {
		numbers := 0
		for seed := range 200 {
			a, whole := boundCall(seed).withMarks()
			before := whole()
			kept := lists(a)
			want := fmt.Sprint(kept)
			other := lists(a)
			if !staysApart(other, func(k int) int64 { return int64(-k - 1) }) {
				t.Fatalf("%s: two lists of a result for %v share memory", what, a)
			}
			for k := range other[:cap(other)] {
				other[:cap(other)][k] = []int64{math.MinInt64}
			}
			if whole() != before || fmt.Sprint(kept) != want || fmt.Sprint(lists(a)) != want {
				t.Fatalf("%s: the lists for %v share memory with it or with others", what, a)
			}
			a.fillBounds(-9)
			if fmt.Sprint(kept) != want {
				t.Fatalf("%s: the lists for %v change with it", what, a)
			}
			for _, list := range kept {
				numbers += len(list)
			}
		}
		if numbers < 100 {
			t.Errorf("%s: only %d numbers", what, numbers)
		}
	}
}

// TestOffcutsAreNewMemory writes into one result, and over the arguments.
func TestOffcutsAreNewMemory(t *testing.T) {
	for seed := range 200 {
		call := boundCall(seed)
		call.l = leafOf(most, most, box(0, 0, 5, 5), box(3, 3, 9, 9))
		a, whole := call.withMarks()
		before := whole()
		kept, code := impl.OffcutsOf(a.l, a.p)
		want := slices.Clone(kept)
		other, _ := impl.OffcutsOf(a.l, a.p)
		fillBoxes(other, -7)
		again, _ := impl.OffcutsOf(a.l, a.p)
		if whole() != before || !slices.Equal(kept, want) || !slices.Equal(again, want) || code != impl.OK {
			t.Fatalf("the offcuts for %v share memory with it or with others", call)
		}
		a.fillBounds(-9)
		if !slices.Equal(kept, want) {
			t.Fatalf("the offcuts for %v change with it", call)
		}
	}
}

// TestSizesMayShareMemory has sizes that lie in one list, one over the other and twice, and lists of areas that do.
func TestSizesMayShareMemory(t *testing.T) {
	numbers := []int64{30, 20, 10, 40, 5, 7}
	kept := slices.Clone(numbers)
	for _, sizes := range [][][]int64{{numbers[:2], numbers[2:4], numbers[4:]}, {numbers[:2], numbers[1:3], numbers[:2]}, {numbers[3:5:5], numbers[:2:2], numbers[3:5]}} {
		a := boundCall(5)
		a.sizes, a.areas, a.usable, a.width, a.length = sizes, numbers[:4], numbers[1:], 45, 60
		first, second := boundResults(a), boundResults(a.copied())
		if first != second || !slices.Equal(numbers, kept) {
			t.Fatalf("%s, and with copies %s", first, second)
		}
		checkShelvesAsTold(t, sizes, 45, 60)
		checkAreaBound(t, numbers, numbers, areaBoundAsTold(numbers, numbers), impl.OK)
	}
}

// TestBoundsAtOnce makes the same calls from several goroutines.
func TestBoundsAtOnce(t *testing.T) {
	const rounds = 6
	results := make(chan string)
	for range rounds {
		go func() {
			text := ""
			for seed := range 60 {
				text += boundResults(boundCall(seed))
			}
			results <- text
		}()
	}
	first := <-results
	for range rounds - 1 {
		if again := <-results; again != first {
			t.Errorf("%s and at the same time %s", first, again)
		}
	}
}
