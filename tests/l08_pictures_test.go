package tests

import (
	"fmt"
	"math"
	"slices"
	"testing"

	"loop.example/g00956/impl"
)

func TestLimitsOfPictures(t *testing.T) {
	if limits := []int64{impl.MaxPalette, impl.MaxContrast}; !slices.Equal(limits, []int64{10, 115}) {
		t.Errorf("limits %v", limits)
	}
}

func TestValidPicture(t *testing.T) {
	for _, p := range goodPictures() {
		if !impl.ValidPicture(p) {
			t.Errorf("%v is valid", p)
		}
	}
	for _, v := range goodVeneers() {
		if p := (impl.Picture{Drawing: draw("10x10;0,0 10,0 0,10;a 0,1,2"), Veneers: []impl.Veneer{v}}); !impl.ValidPicture(p) {
			t.Errorf("%v is valid", p)
		}
	}
	for _, text := range []string{"10x10;", "10x10;5,5", "20000x10;0,0 20000,10"} {
		if d := draw(text); !impl.ValidPicture(impl.Picture{Drawing: d}) || !impl.ValidPicture(impl.Picture{Drawing: d, Veneers: []impl.Veneer{}}) {
			t.Errorf("%s is valid without veneers", text)
		}
	}
	forBadPictures(func(reason string, p impl.Picture) {
		if impl.ValidPicture(p) {
			t.Errorf("%.500v is valid: %s", fmt.Sprint(p), reason)
		}
	})
}

func checkSamePicture(t *testing.T, a, b impl.Picture, want bool) {
	t.Helper()
	if first, second := impl.SamePicture(a, b), impl.SamePicture(b, a); first != want || second != want {
		t.Errorf("SamePicture(%.300v, %.300v) is %v and in the other order %v", fmt.Sprint(a), fmt.Sprint(b), first, second)
	}
}

func TestSamePicture(t *testing.T) {
	var all []impl.Picture
	for seed, text := range slices.Concat(coverTexts, looseTexts) {
		all = append(all, pictureOf(draw(text), seed))
	}
	for i, p := range all {
		for k, other := range all {
			checkSamePicture(t, p, copyOfPicture(other), i == k)
		}
	}
	for seed, p := range goodPictures() {
		checkSamePicture(t, p, copyOfPicture(p), true)
		if len(p.Veneers) > 0 {
			checkSamePicture(t, p, pictureOf(p.Drawing, seed+1), samePictures(p, pictureOf(p.Drawing, seed+1)))
		}
	}
	forBadPictures(func(_ string, p impl.Picture) {
		checkSamePicture(t, p, copyOfPicture(p), true)
		checkSamePicture(t, p, all[0], false)
	})
}

// TestSamePictureNeedsAll makes one change after the other, also to pictures that are not valid.
func TestSamePictureNeedsAll(t *testing.T) {
	for _, text := range []string{"20x10;0,0 20,0 20,10 0,10;a 0,1,2;b 0,2,3", "1x2;3,4 5,6 7,8 9,10;Z 5,6,7;A 8,9,-1", "20x10;0,0 20,0 20,10 0,10;a 0,1,2;b 0,2,3;c 0,1,2"} {
		p := impl.Picture{Drawing: draw(text), Veneers: []impl.Veneer{veneer("oak", 40, 7), veneer("ash", 20, 90)}}
		for reason, change := range map[string]func(p *impl.Picture){
			"Width": func(p *impl.Picture) { p.Drawing.Width++ }, "Height": func(p *impl.Picture) { p.Drawing.Height-- }, "X": func(p *impl.Picture) { p.Drawing.Points[3].X++ }, "Y": func(p *impl.Picture) { p.Drawing.Points[0].Y = math.MinInt64 },
			"one point less": func(p *impl.Picture) { p.Drawing.Points = p.Drawing.Points[:3] }, "one point more": func(p *impl.Picture) { p.Drawing.Points = append(p.Drawing.Points, pt(0, 0)) },
			"Name": func(p *impl.Picture) { p.Drawing.Faces[1].Name += "x" }, "index": func(p *impl.Picture) { p.Drawing.Faces[1].Ring[2]++ }, "one index less": func(p *impl.Picture) { p.Drawing.Faces[0].Ring = p.Drawing.Faces[0].Ring[:2] },
			"one index more": func(p *impl.Picture) { p.Drawing.Faces[0].Ring = append(p.Drawing.Faces[0].Ring, 0) }, "no Ring": func(p *impl.Picture) { p.Drawing.Faces[0].Ring = nil },
			"one face less": func(p *impl.Picture) { p.Drawing.Faces = p.Drawing.Faces[:1] }, "one face more": func(p *impl.Picture) { p.Drawing.Faces = append(p.Drawing.Faces, impl.Face{}) }, "no drawing": func(p *impl.Picture) { p.Drawing = impl.Drawing{} },
			"first Species": func(p *impl.Picture) { p.Veneers[0].Species = "beech" }, "last Species": func(p *impl.Picture) { p.Veneers[1].Species = "" }, "first Shade": func(p *impl.Picture) { p.Veneers[0].Shade++ }, "last Shade": func(p *impl.Picture) { p.Veneers[1].Shade = math.MaxInt64 },
			"first Grain": func(p *impl.Picture) { p.Veneers[0].Grain += 180 }, "last Grain": func(p *impl.Picture) { p.Veneers[1].Grain-- }, "order of veneers": func(p *impl.Picture) { slices.Reverse(p.Veneers) },
			"one veneer less": func(p *impl.Picture) { p.Veneers = p.Veneers[:1] }, "no first veneer": func(p *impl.Picture) { p.Veneers = p.Veneers[1:] }, "one veneer more": func(p *impl.Picture) { p.Veneers = append(p.Veneers, impl.Veneer{}) }, "no veneers": func(p *impl.Picture) { p.Veneers = nil },
			"the last veneer twice": func(p *impl.Picture) { p.Veneers = append(p.Veneers, p.Veneers[1]) }, "two equal veneers": func(p *impl.Picture) { p.Veneers[1] = p.Veneers[0] },
		} {
			other := repainted(p, change)
			checkSamePicture(t, p, other, false)
			if t.Failed() {
				t.Fatalf("%s of %s", reason, text)
			}
			checkSamePicture(t, other, copyOfPicture(other), true)
		}
	}
}

func TestSamePictureTakesNilAsEmpty(t *testing.T) {
	none := impl.Drawing{Width: 10, Height: 10}
	empty := impl.Drawing{Width: 10, Height: 10, Points: []impl.Point{}, Faces: []impl.Face{}}
	checkSamePicture(t, impl.Picture{Drawing: none}, impl.Picture{Drawing: empty, Veneers: []impl.Veneer{}}, true)
	checkSamePicture(t, impl.Picture{}, impl.Picture{Veneers: make([]impl.Veneer, 0, 9)}, true)
	checkSamePicture(t, impl.Picture{}, impl.Picture{Veneers: make([]impl.Veneer, 1)}, false)
	without := func(ring []int64) impl.Picture {
		return impl.Picture{Drawing: impl.Drawing{Faces: []impl.Face{{Name: "a", Ring: ring}}}}
	}
	checkSamePicture(t, without(nil), without([]int64{}), true)
	checkSamePicture(t, without(nil), impl.Picture{}, false)
}

// TestPicturesAreRefused calls with limits, indices, turns and veneers that are good, and with others: ErrInvalid is first.
func TestPicturesAreRefused(t *testing.T) {
	oak := veneer("oak", 40, 0)
	forBadPictures(func(reason string, p impl.Picture) {
		for n, k := range []int64{0, 1, 2, 7, 8, -1, 24, 115, 116, math.MinInt64, math.MaxInt64} {
			list, listCode := impl.EdgeContrasts(p)
			i, m, contrast, weakestCode := impl.WeakestPair(p)
			pairs, pairsCode := impl.WeakPairs(p, k)
			species, speciesCode := impl.SpeciesUsed(p)
			shade, shadeCode := impl.PictureShade(p)
			recolored, recoloredCode := impl.Recolor(p, k, []impl.Veneer{oak, {}, veneer("oak", k, k)}[n%3])
			turned, turnedCode := impl.TurnPicture(p, k)
			for what, code := range map[string]int64{"EdgeContrasts": listCode, "WeakestPair": weakestCode, "WeakPairs": pairsCode, "SpeciesUsed": speciesCode, "PictureShade": shadeCode, "Recolor": recoloredCode, "TurnPicture": turnedCode} {
				if code != impl.ErrInvalid {
					t.Errorf("%s(%.300v) with %d returns the code %d: %s", what, fmt.Sprint(p), k, code, reason)
				}
			}
			if len(list)+len(pairs)+len(species) > 0 || i != 0 || m != 0 || contrast != 0 || shade != 0 || !isZeroPicture(recolored) || !isZeroPicture(turned) {
				t.Errorf("%.300v has results: %s", fmt.Sprint(p), reason)
			}
		}
	})
}

func isZeroPicture(p impl.Picture) bool { return isZero(p.Drawing) && len(p.Veneers) == 0 }

func TestSpeciesUsed(t *testing.T) {
	for _, c := range []struct {
		names []string
		want  string
	}{
		{[]string{"oak", "ash"}, "[ash oak]"}, {[]string{"ash", "oak"}, "[ash oak]"}, {[]string{"oak", "oak"}, "[oak]"}, {[]string{"walnut", "ash", "walnut", "beech", "ash"}, "[ash beech walnut]"}, {nil, "[]"}, {[]string{"holly"}, "[holly]"},
		{[]string{"walnut", "rosewood", "oak", "maple", "holly", "ebony", "cherry", "birch", "beech", "ash"}, "[ash beech birch cherry ebony holly maple oak rosewood walnut]"},
	} {
		p := impl.Picture{Drawing: crowd(len(c.names))}
		for k, name := range c.names {
			shade, _, _, _ := impl.SpeciesData(name)
			p.Veneers = append(p.Veneers, veneer(name, shade, int64(k)))
		}
		species, code := impl.SpeciesUsed(p)
		checkList(t, fmt.Sprint("SpeciesUsed ", c.names), species, code, c.want)
	}
	// One species with several shades, and shades that several species have.
	p := impl.Picture{Drawing: crowd(5), Veneers: []impl.Veneer{veneer("oak", 55, 0), veneer("oak", 25, 0), veneer("beech", 40, 0), veneer("oak", 40, 0), veneer("beech", 25, 0)}}
	species, code := impl.SpeciesUsed(p)
	checkList(t, "SpeciesUsed", species, code, "[beech oak]")
}

func TestPictureShade(t *testing.T) {
	const two, thirds = "20x10;0,0 20,0 20,10 0,10;a 0,1,2;b 0,2,3", "30x10;0,0 10,0 30,0 30,10 10,10 0,10;a 0,1,4,5;b 1,2,3,4"
	for _, c := range []struct {
		text   string
		shades []int64
		want   int64
	}{
		{two, []int64{40, 20}, 30}, {two, []int64{20, 40}, 30}, {two, []int64{40, 40}, 40}, {two, []int64{0, 100}, 50}, {two, []int64{100, 100}, 100}, {two, []int64{0, 0}, 0},
		// Rounded down, also at a half and above it.
		{two, []int64{40, 41}, 40}, {two, []int64{0, 1}, 0}, {two, []int64{99, 100}, 99}, {thirds, []int64{0, 1}, 0}, {thirds, []int64{1, 0}, 0}, {thirds, []int64{1, 2}, 1}, {thirds, []int64{98, 100}, 99},
		// By the areas of the faces, whether they cover the panel or not, and count as often as faces have them.
		{thirds, []int64{40, 10}, 20}, {thirds, []int64{10, 40}, 30}, {"20x10;0,0 20,0 20,10 0,10;a 0,1,2", []int64{40}, 40}, {"20x10;0,0 20,0 20,10 0,10;a 0,1,2,3;b 0,1,2", []int64{40, 10}, 30}, {"20x10;0,0 20,0 20,10 0,10;a 0,1,2,3;b 0,1,2,3;c 0,1,2,3", []int64{0, 50, 100}, 50},
		{"20000x20000;0,0 20000,0 20000,20000 0,20000 1,0 0,1;a 0,1,2,3;b 0,4,5", []int64{40, 100}, 40}, {"20000x20000;0,0 20000,0 20000,20000 0,20000 1,0 0,1;a 0,1,2,3;b 0,4,5", []int64{40, 0}, 39},
	} {
		p := impl.Picture{Drawing: draw(c.text), Veneers: shaded(c.shades...)}
		if got, code := impl.PictureShade(p); got != c.want || code != impl.OK {
			t.Errorf("PictureShade(%s, %v) is %d, %d, want %d", c.text, c.shades, got, code, c.want)
		}
	}
	if got, code := impl.PictureShade(impl.Picture{Drawing: crowd(24), Veneers: slices.Repeat(shaded(100), 24)}); got != 100 || code != impl.OK {
		t.Errorf("PictureShade of a black crowd is %d, %d", got, code)
	}
	for _, text := range []string{"10x10;", "10x10;5,5"} {
		got, code := impl.PictureShade(impl.Picture{Drawing: draw(text)})
		checkNone(t, "PictureShade "+text, int(got), code, impl.ErrState)
	}
}

func TestRecolor(t *testing.T) {
	good := goodVeneers()
	for seed, p := range goodPictures() {
		for k := range p.Veneers {
			v := good[(seed*7+k*13)%len(good)]
			before := copyOfPicture(p)
			got, code := impl.Recolor(p, int64(k), v)
			want := repainted(p, func(p *impl.Picture) { p.Veneers[k] = v })
			if !samePictures(got, want) || code != impl.OK {
				t.Fatalf("Recolor(%v, %d, %v) is %v, %d", p, k, v, got, code)
			}
			if !samePictures(p, before) {
				t.Fatalf("Recolor(%v, %d, %v) changes its picture to %v", before, k, v, p)
			}
			if again, code := impl.Recolor(p, int64(k), p.Veneers[k]); !samePictures(again, p) || code != impl.OK {
				t.Fatalf("Recolor(%v, %d) with the veneer of the face is %v, %d", p, k, again, code)
			}
		}
		for _, k := range noIndices(len(p.Veneers)) {
			if got, code := impl.Recolor(p, k, good[seed%len(good)]); !isZeroPicture(got) || code != impl.ErrRange {
				t.Fatalf("Recolor(%v, %d) is %v, %d", p, k, got, code)
			}
		}
	}
}

// TestRecolorRefusesVeneers has indices that are good, and others: ErrInvalid is first.
func TestRecolorRefusesVeneers(t *testing.T) {
	p := pictureOf(draw(coverTexts[0]), 3)
	for _, bad := range badVeneers() {
		for _, k := range []int64{0, 1, 2, -1, math.MinInt64, math.MaxInt64} {
			if got, code := impl.Recolor(p, k, bad); !isZeroPicture(got) || code != impl.ErrInvalid {
				t.Errorf("Recolor(%v, %d, %.100v) is %v, %d", p, k, bad, got, code)
			}
		}
	}
}
