package tests

import (
	"fmt"
	"math"
	"slices"
	"strings"
	"testing"

	"loop.example/g00956/impl"
)

// nestArguments are those of all functions of chapter 11.
type nestArguments struct {
	nestCase
	list         []impl.Placement
	place        impl.Placement
	p            []impl.Point
	v            impl.Veneer
	l            impl.Leaf
	turn, budget int64
	s            string
}

// nestResults calls every function of chapter 11.
func nestResults(a nestArguments) string {
	polygon, polygonCode := impl.PlacedPolygon(a.pic, a.place)
	veneerFault, veneerCode := impl.VeneerFault(a.v, a.l, a.turn, a.r)
	leafFault, leafCode := impl.LeafFault(a.p, a.l, a.r)
	faults, faultsCode := impl.NestFaults(a.pic, a.leaves, a.list, a.r)
	greedy, greedyCode := impl.GreedyNesting(a.pic, a.leaves, a.r, a.step)
	first, firstCode := impl.FirstNesting(a.pic, a.leaves, a.r, a.step, a.budget)
	used, usedCode := impl.UsedLeaves(a.list)
	waste, wasteCode := impl.WasteOf(a.pic, a.leaves, a.list)
	read, ok := impl.ReadPlacement(a.s)
	text := fmt.Sprint(impl.ValidRules(a.r), impl.ValidPlacements(a.list), polygon, polygonCode, veneerFault, veneerCode, leafFault, leafCode, faults, faultsCode)
	return text + fmt.Sprint(impl.IsNesting(a.pic, a.leaves, a.list, a.r), greedy, greedyCode, first, firstCode, used, usedCode, waste, wasteCode, impl.PlacementText(a.place), read, ok)
}

// placementsWithSpare is a copy with marks behind its end.
func placementsWithSpare(list []impl.Placement) []impl.Placement {
	return append(slices.Clone(list), slices.Repeat([]impl.Placement{put(-7, math.MinInt64, 77, -77, 7)}, 30)...)[:len(list)]
}

// withMarks is a copy of the arguments with marks behind all slices; whole returns all of it, with the marks.
func (a nestArguments) withMarks() (spare nestArguments, whole func() string) {
	spare = a
	pic, wholePicture := pictureWithSpare(a.pic)
	spare.pic, spare.leaves, spare.l = pic, leavesWithSpare(a.leaves), leafWithSpare(a.l)
	spare.list, spare.p = placementsWithSpare(a.list), withSpare(a.p, pt(-7, 77))[:len(a.p)]
	return spare, func() string {
		return wholePicture() + allOfLeaves(spare.leaves) + allOfLeaves([]impl.Leaf{spare.l}) + fmt.Sprint(spare.list[:cap(spare.list)], spare.p[:cap(spare.p)])
	}
}

func (a nestArguments) copied() nestArguments {
	a.pic, a.leaves, a.l = copyOfPicture(a.pic), copyOfLeaves(a.leaves), copyOfLeaf(a.l)
	a.list, a.p = slices.Clip(slices.Clone(a.list)), slices.Clip(slices.Clone(a.p))
	return a
}

// checkSameNestsAgain calls with arguments that have marks behind their slices, and with copies that have none.
func checkSameNestsAgain(t *testing.T, a nestArguments) {
	t.Helper()
	spare, whole := a.withMarks()
	before := whole()
	first := nestResults(spare)
	second := nestResults(a.copied())
	third := nestResults(spare)
	if first != second || first != third {
		t.Fatalf("%.500v: %.500s and then %.500s and %.500s", fmt.Sprint(a), first, second, third)
	}
	if before != whole() {
		t.Fatalf("%.500v: an argument or what lies behind a slice is changed", fmt.Sprint(a))
	}
}

// nestCall has arguments of all kinds, others for each seed.
func nestCall(seed int) nestArguments {
	next := dice(seed + 9)
	c := smallNest(seed)
	a := nestArguments{nestCase: c, place: put(next(4), next(16), next(most+1), next(300), next(8)), p: polygonOf(c.pic.Drawing, 0), v: c.pic.Veneers[0], l: c.leaves[0], turn: next(9), budget: 1 + next(60), s: writtenPlacement(put(next(30), next(18), next(9), next(9), next(9)))}
	for face := range int64(len(c.pic.Veneers) + seed%9/8) {
		if next(6) > 0 {
			a.list = append(a.list, put(face, next(int64(len(c.leaves)+1)), next(15), next(15), next(8)))
		}
	}
	return a
}

func TestNestsAreTheSameAgain(t *testing.T) {
	for seed := range 300 {
		checkSameNestsAgain(t, nestCall(seed))
	}
	n := 0
	call := func(change func(a *nestArguments)) {
		if n++; n%3 == 0 {
			a := nestCall(n)
			change(&a)
			checkSameNestsAgain(t, a)
		}
	}
	forBadPictures(func(_ string, bad impl.Picture) {
		if len(bad.Drawing.Points)+len(bad.Drawing.Faces)+len(bad.Veneers) < 1000 && n%2 == 0 {
			call(func(a *nestArguments) { a.pic = bad })
		}
		n++
	})
	forPlentyOfLeaves(func(_ int, l impl.Leaf, list []impl.Leaf) {
		call(func(a *nestArguments) { a.l, a.leaves, a.step = l, list, max(a.step, l.Width/15) })
	})
	forBadPlacements(func(_ string, bad []impl.Placement) {
		call(func(a *nestArguments) { a.list, a.place = bad[:min(len(bad), 100)], bad[len(bad)-1] })
	})
	forBadPolygons(func(_ string, bad []impl.Point) {
		call(func(a *nestArguments) { a.p = bad[:min(len(bad), 100)] })
	})
	for _, bad := range badRules() {
		call(func(a *nestArguments) { a.r = bad })
	}
	for _, bad := range badVeneers() {
		call(func(a *nestArguments) { a.v, a.pic.Veneers[0] = bad, bad })
	}
}

// TestPicturesOfAllKindsInNests has pictures with many faces and points.
func TestPicturesOfAllKindsInNests(t *testing.T) {
	for seed, pic := range goodPictures() {
		a := nestCall(seed)
		a.pic, a.r, a.step = pic, rulesOf(int64(seed%20), int64(seed%30), 90, 100), int64(10+seed%40)
		a.leaves = oakLeaves(100, 80, 120, 120)
		a.list = nil
		for face := range pic.Veneers {
			if (face+seed)%5 > 0 {
				a.list = append(a.list, put(int64(face), int64(face%3), int64(face*37%90), int64(seed*17%90), int64((face+seed)%8)))
			}
		}
		checkSameNestsAgain(t, a)
	}
}

// TestFarNumbersInNests puts each far number into each number of the arguments, with several others in another one.
func TestFarNumbersInNests(t *testing.T) {
	far := append([]int64{2, 8, 24, 90, 91, 400, 500, 501, impl.MaxBudget, impl.MaxBudget + 1}, farCoordinates...)
	for i, n := range far {
		for j, m := range far {
			a := nestArguments{nestCase: nest(blocks(2), []impl.Leaf{leafOf(30, 20, box(20, 0, 5, 5))}, rulesOf(1, 1, 90, 100), 5), list: []impl.Placement{put(0, 0, 1, 1, 0), put(1, 0, 12, 5, 1)}, place: put(1, 0, 5, 5, 3), p: poly("1,1 9,1 9,9"), v: oakGrain(0), l: leafOf(30, 20, box(20, 0, 5, 5)), turn: 1, budget: 20}
			places := slices.Concat(numbersOfRules(&a.r), numbersOfPlacement(&a.list[0]), numbersOfPlacement(&a.list[1]), numbersOfPlacement(&a.place))
			places = append(places, &a.turn, &a.budget, &a.step, &a.p[0].X, &a.p[1].Y, &a.v.Shade, &a.v.Grain, &a.l.Width, &a.l.Length, &a.l.Defects[0].X, &a.l.Defects[0].Length, &a.l.Veneer.Grain, &a.leaves[0].Width, &a.leaves[0].Length, &a.leaves[0].Number, &a.leaves[0].Defects[0].Y, &a.leaves[0].Defects[0].Width, &a.leaves[0].Veneer.Shade, &a.pic.Veneers[0].Grain, &a.pic.Drawing.Width, &a.pic.Drawing.Points[2].X, &a.pic.Drawing.Faces[1].Ring[0])
			for k, place := range places {
				if (i+j+k)%6 > 0 {
					continue
				}
				next := places[(k+int(magnitudeOf(m%7))+1)%len(places)]
				kept, keptNext := *place, *next
				*place, *next = n, m
				checkSameNestsAgain(t, a)
				*next, *place = keptNext, kept
			}
		}
	}
}

func TestEveryPlacementTextReturnsTheSameAgain(t *testing.T) {
	for _, s := range slices.Concat(oddTexts(), notDecimal, []string{"1,0,20,30,0", "24,0,0,0,0", "1,0,20,30,0,", strings.Repeat("1,", 100000)}) {
		checkSameNestsAgain(t, nestArguments{s: s})
		checkSameNestsAgain(t, nestArguments{s: "1,0,20,30," + s})
	}
}

func TestNilAndEmptyNestsAreEquivalent(t *testing.T) {
	bare := impl.Picture{Drawing: impl.Drawing{Width: 10, Height: 10}}
	hollow := impl.Picture{Drawing: impl.Drawing{Width: 10, Height: 10, Points: []impl.Point{}, Faces: []impl.Face{}}, Veneers: []impl.Veneer{}}
	for _, pics := range [][2]impl.Picture{{{}, {}}, {bare, hollow}, {blocks(1), blocks(1)}} {
		for _, l := range []impl.Leaf{{}, leafOf(10, 10)} {
			for _, leaves := range [][2][]impl.Leaf{{nil, {}}, {{l}, {copyOfLeaf(l)}}} {
				empty := changedLeaf(l, func(l *impl.Leaf) { l.Defects = []impl.Box{} })
				if len(leaves[1]) > 0 {
					leaves[1][0] = empty
				}
				first := nestResults(nestArguments{nestCase: nest(pics[0], leaves[0], anyWay, 5), v: oakGrain(0), l: l, budget: 5})
				second := nestResults(nestArguments{nestCase: nest(pics[1], leaves[1], anyWay, 5), list: []impl.Placement{}, p: []impl.Point{}, v: oakGrain(0), l: empty, budget: 5})
				if first != second {
					t.Errorf("%s and then %s", first, second)
				}
			}
		}
	}
}

// nestLists are the functions that return lists, as all their memory.
var nestLists = map[string]func(a nestArguments) []any{
	"PlacedPolygon": func(a nestArguments) []any { p, _ := impl.PlacedPolygon(a.pic, a.place); return elementsOf(p) },
	"NestFaults": func(a nestArguments) []any {
		f, _ := impl.NestFaults(a.pic, a.leaves, a.list, a.r)
		return elementsOf(f)
	},
	"GreedyNesting": func(a nestArguments) []any {
		list, _ := impl.GreedyNesting(a.pic, a.leaves, a.r, a.step)
		return elementsOf(list)
	},
	"FirstNesting": func(a nestArguments) []any {
		list, _ := impl.FirstNesting(a.pic, a.leaves, a.r, a.step, a.budget)
		return elementsOf(list)
	},
	"UsedLeaves": func(a nestArguments) []any { list, _ := impl.UsedLeaves(a.list); return elementsOf(list) },
}

// elementsOf returns pointers to all elements of a list, also behind its end.
func elementsOf[T any](list []T) []any {
	var all []any
	for k := range list[:cap(list)] {
		all = append(all, &list[:cap(list)][k])
	}
	return all
}

// overwrite writes a mark into each element.
func overwrite(elements []any, mark int64) {
	for _, e := range elements {
		switch e := e.(type) {
		case *impl.Point:
			*e = pt(mark, mark)
		case *impl.NestFault:
			*e = fault(mark, mark, mark)
		case *impl.Placement:
			*e = put(mark, mark, mark, mark, mark)
		case *int64:
			*e = mark
		}
	}
}

func shown(elements []any) string {
	text := ""
	for _, e := range elements {
		switch e := e.(type) {
		case *impl.Point:
			text += fmt.Sprint(*e)
		case *impl.NestFault:
			text += fmt.Sprint(*e)
		case *impl.Placement:
			text += fmt.Sprint(*e)
		case *int64:
			text += fmt.Sprint(*e, " ")
		}
	}
	return text
}

// TestListsOfNestsAreNewMemory writes into one result, and then over the arguments.
func TestListsOfNestsAreNewMemory(t *testing.T) {
	for what, made := range nestLists {
		lengths := 0
		for seed := range 100 {
			call := nestCall(seed)
			call.place, call.budget = put(0, 0, 1, 2, int64(seed%8)), impl.MaxBudget
			a, whole := call.withMarks()
			before := whole()
			kept := made(a)
			want := shown(kept)
			other := made(a)
			overwrite(other, -7)
			if whole() != before || shown(kept) != want || shown(made(a)) != want {
				t.Fatalf("%s: the result for %v shares memory with it or with another one", what, a)
			}
			fillPicture(a.pic, -9)
			fillLeaves(a.leaves, -9)
			overwrite(elementsOf(a.list), -9)
			if shown(kept) != want {
				t.Fatalf("%s: the result for %v changes with it", what, call)
			}
			lengths += len(kept)
		}
		if lengths < 40 {
			t.Errorf("%s: only %d elements", what, lengths)
		}
	}
}

// TestPartsOfNestsMayShareMemory has lists that lie in one list, and leaves whose defects do.
func TestPartsOfNestsMayShareMemory(t *testing.T) {
	all := laid("0,0,1,1,0 1,1,12,5,1 2,1,1,1,0 3,0,3,3,3")
	boxes := []impl.Box{box(20, 0, 5, 5), box(0, 12, 3, 3), box(8, 8, 1, 1)}
	leaves := oakLeaves(30, 20, 30, 20)
	leaves[0].Defects, leaves[1].Defects = boxes[:2], boxes[1:]
	keptBoxes, keptAll := slices.Clone(boxes), slices.Clone(all)
	for from := range all {
		for to := from; to <= len(all); to++ {
			a := nestArguments{nestCase: nest(blocks(4), leaves, rulesOf(1, 1, 90, 100), 5), list: all[from:to], place: all[from], p: poly("1,1 9,1 9,9"), v: oakGrain(0), l: leaves[0], budget: 50}
			first, second := nestResults(a), nestResults(a.copied())
			if first != second || !slices.Equal(all, keptAll) || !slices.Equal(boxes, keptBoxes) {
				t.Fatalf("%s, and with copies %s", first, second)
			}
		}
	}
}

// TestSpentBudgetsLeaveNoPlacements calls with other budgets between: the results stay.
func TestSpentBudgetsLeaveNoPlacements(t *testing.T) {
	for seed := range 60 {
		a := nestCall(seed)
		budgets := []int64{impl.MaxBudget, 1, 2, 3, 5, 8, 13, 21, 100, 400}
		var want []string
		for _, a.budget = range budgets {
			want = append(want, nestResults(a))
		}
		for k := len(budgets) - 1; k >= 0; k-- {
			a.budget = budgets[k]
			if again := nestResults(a); again != want[k] {
				t.Fatalf("%v with the budget %d: %s and then %s", a, budgets[k], want[k], again)
			}
		}
	}
}

// TestNestsAtOnce makes the same calls from several goroutines: no search sees another one.
func TestNestsAtOnce(t *testing.T) {
	const rounds = 6
	results := make(chan string)
	for range rounds {
		go func() {
			text := ""
			for seed := range 40 {
				a := nestCall(seed)
				a.budget = int64(1 + 50*seed)
				text += nestResults(a)
			}
			results <- text
		}()
	}
	first := <-results
	for range rounds - 1 {
		if again := <-results; again != first {
			t.Errorf("%s and at the same time %s", first, again)
		}
	}
}
