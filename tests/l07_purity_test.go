package tests

import (
	"fmt"
	"math"
	"slices"
	"testing"

	"loop.example/g00956/impl"
)

// veneerResults calls every function of chapter 7 but SpeciesNames.
func veneerResults(v, other impl.Veneer, list []impl.Veneer, n, m int64, s string) string {
	a, b, c, dataCode := impl.SpeciesData(v.Species)
	angle, angleCode := impl.GrainAngle(n, m)
	turned, turnedCode := impl.TurnGrain(n, m)
	contrast, contrastCode := impl.ContrastOf(v, other)
	nearest, nearestCode := impl.NearestSpecies(n)
	within, withinCode := impl.SpeciesWithin(n, m)
	shaded, shadedCode := impl.WithShade(v, n)
	mean, meanCode := impl.MeanShade(list)
	read, ok := impl.ReadVeneer(s)
	return fmt.Sprint(a, b, c, dataCode, impl.ValidVeneer(v), angle, angleCode, turned, turnedCode, contrast, contrastCode, nearest, nearestCode, within, withinCode, shaded, shadedCode, mean, meanCode, impl.VeneerText(v), read, ok)
}

// checkSameVeneersAgain calls with a list that has marks behind it, and with a copy that has none.
func checkSameVeneersAgain(t *testing.T, v, other impl.Veneer, list []impl.Veneer, n, m int64, s string) {
	t.Helper()
	mark := veneer("mark", -7, math.MinInt64)
	whole := append(slices.Clone(list), slices.Repeat([]impl.Veneer{mark}, 9)...)
	before := slices.Clone(whole)
	first := veneerResults(v, other, whole[:len(list)], n, m, s)
	second := veneerResults(v, other, slices.Clip(slices.Clone(list)), n, m, s)
	if first != second {
		t.Fatalf("%.100v %.100v %.300v %d %d %.100q: %s and then %s", v, other, fmt.Sprint(list), n, m, s, first, second)
	}
	if !slices.Equal(whole, before) {
		t.Fatalf("%.300v: the list or what lies behind it is changed", fmt.Sprint(list))
	}
}

func TestVeneersAreTheSameAgain(t *testing.T) {
	good, bad := goodVeneers(), badVeneers()
	for k, v := range append(slices.Clone(good), bad...) {
		n, m := int64(k%101), int64(k*7%8)
		checkSameVeneersAgain(t, v, good[k%len(good)], good[k%len(good):], n, m, impl.VeneerText(v))
		checkSameVeneersAgain(t, good[k%len(good)], v, []impl.Veneer{good[0], v, good[1]}, m, n, v.Species)
		checkSameVeneersAgain(t, v, bad[k%len(bad)], slices.Repeat([]impl.Veneer{v}, k%70), n, n, "oak 40 "+v.Species)
	}
}

// TestFarNumbersInVeneers puts each two of the far numbers into all numbers.
func TestFarNumbersInVeneers(t *testing.T) {
	numbers := append(slices.Concat(farNumbers, farCoordinates, extremes), 15, 16, 40, 55, 56, 90, 100, 101, 179)
	for k, n := range numbers {
		for _, m := range numbers {
			v, other := veneer("oak", n, m), veneer("ash", m, 0)
			text := fmt.Sprintf("oak %d %d", n, m)
			checkSameVeneersAgain(t, v, other, []impl.Veneer{v, other}, n, m, text)
			checkSameVeneersAgain(t, veneer("oak", 40, n), veneer("ash", 20, m), []impl.Veneer{v, other, v}, n, m, text)
			checkReadVeneer(t, text)
		}
		checkSameVeneersAgain(t, impl.Veneer{}, impl.Veneer{}, slices.Repeat(goodVeneers()[:1], k), n, -n, "")
	}
}

func TestEveryVeneerTextReturnsTheSameAgain(t *testing.T) {
	for _, s := range slices.Concat(oddTexts(), notDecimal, noSpecies()) {
		for _, text := range []string{s, "oak " + s, "oak 40 " + s, s + " 40 0"} {
			checkSameVeneersAgain(t, veneer(s, 40, 0), veneer(text, 40, 0), nil, 40, 5, text)
		}
	}
}

func TestNilAndEmptyVeneersAreEquivalent(t *testing.T) {
	if first, second := veneerResults(impl.Veneer{}, impl.Veneer{}, nil, 0, 0, ""), veneerResults(impl.Veneer{}, impl.Veneer{}, []impl.Veneer{}, 0, 0, ""); first != second {
		t.Errorf("%s and then %s", first, second)
	}
}

// TestNamesOfSpeciesAreNewMemory writes over one result: the others, and the table, stay.
func TestNamesOfSpeciesAreNewMemory(t *testing.T) {
	for what, names := range map[string]func() []string{
		"SpeciesNames":      impl.SpeciesNames,
		"SpeciesWithin all": func() []string { names, _ := impl.SpeciesWithin(50, 100); return names },
		"SpeciesWithin two": func() []string { names, _ := impl.SpeciesWithin(40, 5); return names },
		"SpeciesWithin one": func() []string { names, _ := impl.SpeciesWithin(40, 0); return names },
	} {
		kept := names()
		want := slices.Clone(kept)
		other := names()
		for k := range other[:cap(other)] {
			other[:cap(other)][k] = "changed"
		}
		if again := names(); len(want) == 0 || !slices.Equal(kept, want) || !slices.Equal(again, want) {
			t.Errorf("%s is %v and %v after another result was changed, want %v", what, kept, again, want)
		}
		_, _, _, code := impl.SpeciesData(want[0])
		if _, _, _, other := impl.SpeciesData("changed"); code != impl.OK || other != impl.ErrNotFound {
			t.Errorf("the table changes with the result of %s", what)
		}
	}
}
