package tests

import (
	"fmt"
	"math"
	"slices"
	"testing"

	"loop.example/g00956/impl"
)

// arguments are those of all functions of chapter 8.
type arguments struct {
	p, other     impl.Picture
	v            impl.Veneer
	palette      []impl.Veneer
	choice       []int64
	k, limit     int64
	turn, budget int64
}

// pictureResults calls every function of chapter 8.
func pictureResults(a arguments) string {
	list, listCode := impl.EdgeContrasts(a.p)
	i, k, contrast, weakestCode := impl.WeakestPair(a.p)
	pairs, pairsCode := impl.WeakPairs(a.p, a.limit)
	species, speciesCode := impl.SpeciesUsed(a.p)
	shade, shadeCode := impl.PictureShade(a.p)
	recolored, recoloredCode := impl.Recolor(a.p, a.k, a.v)
	turned, turnedCode := impl.TurnPicture(a.p, a.turn)
	text := fmt.Sprint(impl.ValidPicture(a.p), impl.SamePicture(a.p, a.other), impl.SamePicture(a.other, a.p), list, listCode, i, k, contrast, weakestCode, pairs, pairsCode, species, speciesCode, shade, shadeCode, recolored, recoloredCode, turned, turnedCode)
	text += fmt.Sprint(impl.IsColoring(a.p.Drawing, a.palette, a.limit, a.choice))
	first, firstCode := impl.FirstColoring(a.p.Drawing, a.palette, a.limit, a.budget)
	fewest, number, fewestCode := impl.FewestVeneers(a.p.Drawing, a.palette, a.limit, a.budget)
	best, most, bestCode := impl.BestColoring(a.p.Drawing, a.palette, a.budget)
	return text + fmt.Sprint(first, firstCode, fewest, number, fewestCode, best, most, bestCode)
}

// pictureWithSpare is a copy with marks behind all slices; whole returns all of it, with the marks.
func pictureWithSpare(p impl.Picture) (spare impl.Picture, whole func() string) {
	d, drawing := drawingWithSpare(p.Drawing)
	veneers := veneersWithSpare(p.Veneers)
	return impl.Picture{Drawing: d, Veneers: veneers}, func() string { return drawing() + fmt.Sprint(veneers[:cap(veneers)]) }
}

func veneersWithSpare(list []impl.Veneer) []impl.Veneer {
	marks := slices.Repeat([]impl.Veneer{veneer("mark", -7, math.MinInt64)}, 30)
	return append(slices.Clone(list), marks...)[:len(list)]
}

// checkSamePictureAgain calls with arguments that have marks behind their slices, and with copies that have none.
func checkSamePictureAgain(t *testing.T, a arguments) {
	t.Helper()
	spare, copies := a, a
	var wholePicture, wholeOther func() string
	spare.p, wholePicture = pictureWithSpare(a.p)
	spare.other, wholeOther = pictureWithSpare(a.other)
	spare.palette = veneersWithSpare(a.palette)
	spare.choice = append(slices.Clone(a.choice), slices.Repeat([]int64{-77}, 30)...)[:len(a.choice)]
	whole := func() string {
		return wholePicture() + wholeOther() + fmt.Sprint(spare.palette[:cap(spare.palette)], spare.choice[:cap(spare.choice)])
	}
	before := whole()
	copies.p, copies.other, copies.palette, copies.choice = copyOfPicture(a.p), copyOfPicture(a.other), slices.Clip(slices.Clone(a.palette)), slices.Clip(slices.Clone(a.choice))
	first := pictureResults(spare)
	second := pictureResults(copies)
	if first != second {
		t.Fatalf("%.500v: %.500s and then %.500s", fmt.Sprint(a), first, second)
	}
	if before != whole() {
		t.Fatalf("%.500v: an argument or what lies behind a slice is changed", fmt.Sprint(a))
	}
}

func TestPicturesAreTheSameAgain(t *testing.T) {
	good, bad := goodVeneers(), badVeneers()
	for seed, p := range goodPictures() {
		a := arguments{p: p, other: p, v: good[seed%len(good)], palette: palettes(seed)[seed%10], choice: make([]int64, len(p.Veneers)), k: int64(seed % 5), limit: int64(seed * 7 % 116), turn: int64(seed % 8), budget: int64(seed%97 + 1)}
		checkSamePictureAgain(t, a)
		a.other, a.v, a.palette, a.k, a.turn, a.budget = pictureOf(p.Drawing, seed+1), bad[seed%len(bad)], good[:1+seed%10], math.MinInt64, 8, 200
		checkSamePictureAgain(t, a)
		a.palette, a.limit, a.choice = append(good[:seed%7:seed%7], bad[seed%len(bad)]), -1, []int64{0, math.MaxInt64}
		checkSamePictureAgain(t, a)
	}
	n := 0
	forBadPictures(func(_ string, p impl.Picture) {
		if n++; len(p.Drawing.Points)+len(p.Drawing.Faces)+len(p.Veneers) < 1000 && n%3 == 0 {
			checkSamePictureAgain(t, arguments{p: p, other: pictureOf(draw(twoFaces), n), v: good[n%len(good)], palette: good[:2], choice: []int64{0, 1}, limit: 20, budget: 10})
		}
	})
}

// TestOrderOfMapsDoesNotShowInPictures calls often, because a map may hold its keys in the wanted order by chance.
func TestOrderOfMapsDoesNotShowInPictures(t *testing.T) {
	for seed, d := range []impl.Drawing{fullMesh(), renumbered(fullMesh(), 7), crowd(impl.MaxFaces), draw(fan), wheel(23), draw(neighbourTexts[12])} {
		a := arguments{p: pictureOf(d, seed), palette: palettes(seed)[4], choice: make([]int64, len(d.Faces)), limit: 20, turn: 5, budget: 300}
		first := pictureResults(a)
		for range 100 {
			if again := pictureResults(a); again != first {
				t.Fatalf("%s and then %s", first, again)
			}
		}
	}
}

// TestSpentBudgetsLeaveNothingBehind calls with other budgets between: the results stay.
func TestSpentBudgetsLeaveNothingBehind(t *testing.T) {
	for seed, d := range smallDrawings() {
		palette := palettes(seed)[3]
		limit := limits[seed%len(limits)]
		results := func(budget int64) string {
			first, firstCode := impl.FirstColoring(d, palette, limit, budget)
			fewest, number, fewestCode := impl.FewestVeneers(d, palette, limit, budget)
			best, contrast, bestCode := impl.BestColoring(d, palette, budget)
			return fmt.Sprint(first, firstCode, fewest, number, fewestCode, best, contrast, bestCode)
		}
		budgets := []int64{impl.MaxBudget, 1, 2, 3, 5, 8, 13, 21, 100}
		var want []string
		for _, budget := range budgets {
			want = append(want, results(budget))
		}
		for range 3 {
			for k := len(budgets) - 1; k >= 0; k-- {
				if again := results(budgets[k]); again != want[k] {
					t.Fatalf("%v %v %d with the budget %d: %s and then %s", d, palette, limit, budgets[k], want[k], again)
				}
			}
		}
	}
}

// TestSearchesAtOnce makes the same searches from several goroutines: no search sees another one.
func TestSearchesAtOnce(t *testing.T) {
	const rounds = 6
	results := make(chan string)
	for range rounds {
		go func() {
			text := ""
			for seed, d := range []impl.Drawing{draw(mixed), draw(groups), mesh(3, 2, 20), draw(twoFaces)} {
				a := arguments{p: pictureOf(d, seed), palette: palettes(seed)[4], limit: 10, budget: int64(20 + seed)}
				text += pictureResults(a)
			}
			results <- text
		}()
	}
	first := <-results
	for range rounds - 1 {
		if again := <-results; again != first {
			t.Errorf("%s and at the same time %s", first, again)
		}
	}
}

// TestFarNumbersInPictures puts each of the far numbers into each number of a picture, a palette and a choice, and into each argument.
func TestFarNumbersInPictures(t *testing.T) {
	far := append(slices.Clone(farNumbers), -most, 0, 1, 7, 24, 40, 115, 116, most, most+1)
	base := func(text string) arguments {
		d := draw(text)
		choice := make([]int64, len(d.Faces))
		return arguments{p: pictureOf(d, 3), other: pictureOf(d, 3), v: veneer("oak", 40, 0), palette: palettes(3)[2], choice: choice, k: 1, limit: 20, turn: 5, budget: 50}
	}
	for _, n := range far {
		for _, m := range far {
			a := base(twoFaces)
			a.k, a.limit, a.turn, a.budget = n, m, n, m
			checkSamePictureAgain(t, a)
			a.k, a.limit, a.turn, a.budget = 0, 20, 1, n
			a.choice = []int64{n, m}
			a.v = veneer("oak", n, m)
			checkSamePictureAgain(t, a)
			a.budget, a.choice = 50, []int64{0, n}
			a.palette[1] = veneer("oak", m, n)
			checkSamePictureAgain(t, a)
		}
	}
	for _, text := range []string{twoFaces, coverTexts[3], neighbourTexts[4], fan} {
		a := base(text)
		places := numbersOf(&a.p.Drawing)
		for k := range a.p.Veneers {
			places = append(places, &a.p.Veneers[k].Shade, &a.p.Veneers[k].Grain)
		}
		for n, place := range places {
			kept := *place
			for x, number := range far {
				*place = number
				a.k, a.turn = int64(x%len(a.p.Veneers)), int64(x%8)
				checkSamePictureAgain(t, a)
				if x%3 > 0 {
					continue
				}
				next := places[(n+x+1)%len(places)]
				keptNext := *next
				*next = far[(x*5+n)%len(far)]
				checkSamePictureAgain(t, a)
				*next = keptNext
			}
			*place = kept
		}
	}
}

func TestNilAndEmptyPicturesAreEquivalent(t *testing.T) {
	for _, text := range []string{"10x10;", "10x10;0,0", "10x10;0,0 10,0 10,10;a -", "10x10;0,0 10,0 10,10;a 0,1,2", "9x10;"} {
		p := impl.Picture{Drawing: draw(text)}
		empty := repainted(p, func(p *impl.Picture) {
			p.Drawing.Points, p.Drawing.Faces, p.Veneers = append([]impl.Point{}, p.Drawing.Points...), append([]impl.Face{}, p.Drawing.Faces...), []impl.Veneer{}
			for k := range p.Drawing.Faces {
				p.Drawing.Faces[k].Ring = append([]int64{}, p.Drawing.Faces[k].Ring...)
			}
		})
		for _, palette := range [][]impl.Veneer{nil, grainless(40)} {
			for limit := int64(-1); limit < 3; limit++ {
				a := arguments{p: p, other: empty, palette: palette, limit: limit, turn: limit + 1, budget: limit + 1}
				b := arguments{p: empty, other: p, palette: append([]impl.Veneer{}, palette...), choice: []int64{}, limit: limit, turn: limit + 1, budget: limit + 1}
				if first, second := pictureResults(a), pictureResults(b); first != second {
					t.Errorf("%s: %s and then %s", text, first, second)
				}
			}
		}
	}
}

// allOfPicture writes down all that the slices of a picture hold, also behind their ends.
func allOfPicture(p impl.Picture) string {
	return allMemory(p.Drawing) + fmt.Sprint(p.Veneers[:cap(p.Veneers)])
}

// fillPicture writes into all memory of a picture.
func fillPicture(p impl.Picture, mark int64) {
	fillDrawing(p.Drawing, mark)
	for k := range p.Veneers[:cap(p.Veneers)] {
		p.Veneers[:cap(p.Veneers)][k] = veneer("changed", mark, mark)
	}
}

// TestMadePicturesAreNewMemory also has pictures that are returned unchanged.
func TestMadePicturesAreNewMemory(t *testing.T) {
	for what, made := range map[string]func(p impl.Picture, n int) (impl.Picture, int64){
		"Recolor": func(p impl.Picture, n int) (impl.Picture, int64) { return impl.Recolor(p, 0, goodVeneers()[n]) },
		"Recolor not": func(p impl.Picture, n int) (impl.Picture, int64) {
			return impl.Recolor(p, int64(len(p.Veneers)-1), p.Veneers[len(p.Veneers)-1])
		},
		"TurnPicture": func(p impl.Picture, n int) (impl.Picture, int64) { return impl.TurnPicture(p, int64(n%8)) },
		"not turned":  func(p impl.Picture, _ int) (impl.Picture, int64) { return impl.TurnPicture(p, 0) },
	} {
		for seed, p := range goodPictures() {
			if len(p.Veneers) == 0 {
				continue
			}
			spare, whole := pictureWithSpare(p)
			before := whole()
			kept, code := made(spare, seed%200)
			want := allOfPicture(kept)
			other, _ := made(spare, seed%200)
			if code != impl.OK || !staysApart(ringsOf(other.Drawing), func(k int) int64 { return int64(-k - 1) }) {
				t.Fatalf("%s: two Rings of the result for %v share memory, or the code is %d", what, p, code)
			}
			fillPicture(other, -7)
			again, _ := made(spare, seed%200)
			if whole() != before || allOfPicture(kept) != want || !samePictures(again, kept) {
				t.Fatalf("%s: the result for %v shares memory with it or with another one", what, p)
			}
			fillPicture(spare, -9)
			if allOfPicture(kept) != want {
				t.Fatalf("%s: the result for %v changes with it", what, p)
			}
		}
	}
}

// TestListsOfPicturesAreNewMemory writes a mark of its own into each list of a result, and over the picture and the palette.
func TestListsOfPicturesAreNewMemory(t *testing.T) {
	for what, lists := range map[string]func(p impl.Picture, palette []impl.Veneer) [][]int64{
		"EdgeContrasts": func(p impl.Picture, _ []impl.Veneer) [][]int64 { list, _ := impl.EdgeContrasts(p); return list },
		"WeakPairs":     func(p impl.Picture, _ []impl.Veneer) [][]int64 { list, _ := impl.WeakPairs(p, 115); return list },
		"colorings": func(p impl.Picture, palette []impl.Veneer) [][]int64 {
			first, _ := impl.FirstColoring(p.Drawing, palette, 0, impl.MaxBudget)
			fewest, _, _ := impl.FewestVeneers(p.Drawing, palette, 0, impl.MaxBudget)
			best, _, _ := impl.BestColoring(p.Drawing, palette, impl.MaxBudget)
			return [][]int64{first, fewest, best}
		},
	} {
		for seed, p := range goodPictures() {
			spare, whole := pictureWithSpare(p)
			before, palette := whole(), palettes(seed)[1]
			kept := lists(spare, palette)
			want := fmt.Sprint(kept)
			if !staysApart(lists(spare, palette), func(k int) int64 { return int64(-k - 1) }) {
				t.Fatalf("%s: two lists of a result for %v share memory", what, p)
			}
			if whole() != before || fmt.Sprint(kept) != want || fmt.Sprint(lists(spare, palette)) != want {
				t.Fatalf("%s: the lists for %v share memory with it or with others", what, p)
			}
			fillPicture(spare, -5)
			if fmt.Sprint(kept) != want || fmt.Sprint(lists(p, palette)) != want {
				t.Fatalf("%s: the lists for %v change with it or with others", what, p)
			}
		}
	}
}

func TestSpeciesUsedAreNewMemory(t *testing.T) {
	for _, p := range goodPictures() {
		kept, _ := impl.SpeciesUsed(p)
		want := slices.Clone(kept)
		other, _ := impl.SpeciesUsed(p)
		for k := range other[:cap(other)] {
			other[:cap(other)][k] = "changed"
		}
		if again, _ := impl.SpeciesUsed(p); !slices.Equal(kept, want) || !slices.Equal(again, want) || !slices.Equal(want, speciesAsTold(p)) {
			t.Fatalf("SpeciesUsed(%v) is %v and %v after another result was changed, want %v", p, kept, again, want)
		}
	}
}

// TestRingsMayShareMemoryInPictures has Rings that lie in one list, one behind the other, one within the other, and twice.
func TestRingsMayShareMemoryInPictures(t *testing.T) {
	list := []int64{0, 1, 2, 3, 0, 2, 4}
	d := draw("20x10;0,0 20,0 20,10 0,10 5,5 10,5")
	for k, ring := range [][]int64{list[:4], list[:3], list[:4], list[1:4], list[3:6], list[:3:3], list[2:5]} {
		d.Faces = append(d.Faces, impl.Face{Name: letter(k), Ring: ring})
	}
	kept := slices.Clone(list)
	p := pictureOf(d, 2)
	if !impl.ValidPicture(p) {
		t.Fatalf("%v is valid", p)
	}
	for turn := range int64(8) {
		a := arguments{p: p, other: p, v: p.Veneers[1], palette: p.Veneers[:3], choice: make([]int64, 7), limit: 10, turn: turn, budget: 500}
		first := pictureResults(a)
		a.p = copyOfPicture(p)
		if second := pictureResults(a); first != second || !slices.Equal(list, kept) {
			t.Fatalf("%s, and with copies %s", first, second)
		}
		turned, _ := impl.TurnPicture(p, turn)
		recolored, _ := impl.Recolor(p, 1, p.Veneers[0])
		for _, got := range []impl.Picture{turned, recolored} {
			if !staysApart(ringsOf(got.Drawing), func(k int) int64 { return int64(-k - 1) }) || !slices.Equal(list, kept) {
				t.Fatalf("%v: Rings share memory", got)
			}
		}
	}
}
