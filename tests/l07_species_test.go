package tests

import (
	"fmt"
	"math"
	"slices"
	"strings"
	"testing"

	"loop.example/g00956/impl"
)

// wood is a row of the table of the document.
type wood struct {
	name                      string
	shade, hardness, swelling int64
}

var woods = []wood{
	{"ash", 20, 40, 310}, {"beech", 35, 45, 410}, {"birch", 15, 33, 280}, {"cherry", 50, 36, 240}, {"ebony", 95, 85, 270},
	{"holly", 5, 35, 370}, {"maple", 10, 42, 290}, {"oak", 40, 40, 330}, {"rosewood", 80, 60, 220}, {"walnut", 70, 38, 260},
}

// noSpecies are names that are not in the table.
func noSpecies() []string {
	names := []string{"", " ", "pine", "teak", "-", "0", "oak\x00", "\x00", "oak\n", "\xff", "oa\xe2", "oak,ash", "oak ash", "ashbeech", "Species", "species", "|", strings.Repeat("oak", 1000), strings.Repeat("a", 100000)}
	for _, w := range woods {
		names = append(names, " "+w.name, w.name+" ", w.name+"s", w.name+"0", w.name+w.name, w.name[1:], strings.ToUpper(w.name), strings.ToUpper(w.name[:1])+w.name[1:], w.name[:len(w.name)-1]+strings.ToUpper(w.name[len(w.name)-1:]), "`"+w.name+"`")
		for k := range w.name {
			names = append(names, w.name[:k], w.name[:k]+" "+w.name[k:])
		}
	}
	return names
}

// farNumbers are neither shades nor directions.
var farNumbers = []int64{math.MinInt64, math.MinInt64 + 1, math.MinInt64 + 40, -1 << 32, -1000, -181, -180, -101, -100, -16, -2, -1, 180, 181, 220, 255, 256, 360, 1<<32 + 40, 1 << 62, math.MaxInt64 - 1, math.MaxInt64}

func TestLimitsOfVeneers(t *testing.T) {
	if limits := []int64{impl.MaxShade, impl.ShadeRange, impl.HalfTurn}; !slices.Equal(limits, []int64{100, 15, 180}) {
		t.Errorf("limits %v", limits)
	}
}

func TestSpeciesNames(t *testing.T) {
	if got := fmt.Sprint(impl.SpeciesNames()); got != "[ash beech birch cherry ebony holly maple oak rosewood walnut]" {
		t.Errorf("SpeciesNames is %s", got)
	}
	for k, name := range impl.SpeciesNames() {
		if name != woods[k].name || !impl.IsName(name) {
			t.Errorf("the species %d is %q", k, name)
		}
	}
}

func TestSpeciesData(t *testing.T) {
	for _, w := range woods {
		if a, b, c, code := impl.SpeciesData(w.name); a != w.shade || b != w.hardness || c != w.swelling || code != impl.OK {
			t.Errorf("SpeciesData(%s) is %d, %d, %d, %d", w.name, a, b, c, code)
		}
	}
	for _, name := range noSpecies() {
		if a, b, c, code := impl.SpeciesData(name); a != 0 || b != 0 || c != 0 || code != impl.ErrNotFound {
			t.Errorf("SpeciesData(%.100q) is %d, %d, %d, %d", name, a, b, c, code)
		}
	}
}

func TestNearestSpecies(t *testing.T) {
	for _, c := range []struct {
		shade int64
		want  string
	}{
		{0, "holly"}, {5, "holly"}, {7, "holly"}, {8, "maple"}, {10, "maple"}, {20, "ash"}, {100, "ebony"}, {95, "ebony"}, {60, "cherry"}, {61, "walnut"}, {59, "cherry"},
		// Two are equally near: the first one of the table, whether it is the lighter one or not.
		{75, "rosewood"}, {45, "cherry"}, {74, "walnut"}, {76, "rosewood"}, {44, "oak"}, {46, "cherry"}, {65, "walnut"},
	} {
		if got, code := impl.NearestSpecies(c.shade); got != c.want || code != impl.OK {
			t.Errorf("NearestSpecies(%d) is %s, %d, want %s", c.shade, got, code, c.want)
		}
	}
	for shade := range int64(impl.MaxShade + 1) {
		got, code := impl.NearestSpecies(shade)
		want := slices.IndexFunc(woods, func(w wood) bool {
			return !slices.ContainsFunc(woods, func(v wood) bool { return magnitudeOf(v.shade-shade) < magnitudeOf(w.shade-shade) })
		})
		if got != woods[want].name || code != impl.OK {
			t.Errorf("NearestSpecies(%d) is %s, %d, want %s", shade, got, code, woods[want].name)
		}
	}
	for _, shade := range append(farNumbers, 101, 102) {
		if got, code := impl.NearestSpecies(shade); got != "" || code != impl.ErrRange {
			t.Errorf("NearestSpecies(%d) is %q, %d", shade, got, code)
		}
	}
}

func TestSpeciesWithin(t *testing.T) {
	for _, c := range []struct {
		shade, tolerance int64
		want             string
	}{
		{40, 5, "[beech oak]"}, {40, 4, "[oak]"}, {40, 0, "[oak]"}, {60, 9, "[]"}, {60, 10, "[cherry walnut]"}, {41, 0, "[]"}, {0, 0, "[]"}, {0, 4, "[]"}, {0, 5, "[holly]"}, {12, 5, "[birch maple]"}, {12, 8, "[ash birch holly maple]"},
		{100, 4, "[]"}, {100, 5, "[ebony]"}, {50, 100, "[ash beech birch cherry ebony holly maple oak rosewood walnut]"}, {0, 95, "[ash beech birch cherry ebony holly maple oak rosewood walnut]"}, {0, 94, "[ash beech birch cherry holly maple oak rosewood walnut]"},
		{100, 94, "[ash beech birch cherry ebony maple oak rosewood walnut]"}, {100, 95, "[ash beech birch cherry ebony holly maple oak rosewood walnut]"}, {100, 100, "[ash beech birch cherry ebony holly maple oak rosewood walnut]"},
	} {
		got, code := impl.SpeciesWithin(c.shade, c.tolerance)
		checkList(t, fmt.Sprint("SpeciesWithin ", c.shade, c.tolerance), got, code, c.want)
	}
	for shade := range int64(impl.MaxShade + 1) {
		for tolerance := range int64(impl.MaxShade + 1) {
			var want []string
			for _, w := range woods {
				if shade-tolerance <= w.shade && w.shade <= shade+tolerance {
					want = append(want, w.name)
				}
			}
			if got, code := impl.SpeciesWithin(shade, tolerance); !slices.Equal(got, want) || code != impl.OK {
				t.Fatalf("SpeciesWithin(%d, %d) is %v, %d, want %v", shade, tolerance, got, code, want)
			}
		}
	}
	for _, far := range append(farNumbers, 101, 102) {
		for _, n := range []int64{0, 1, 40, 100, far, -1, 101} {
			for _, pair := range [][2]int64{{far, n}, {n, far}} {
				if got, code := impl.SpeciesWithin(pair[0], pair[1]); len(got) != 0 || code != impl.ErrRange {
					t.Errorf("SpeciesWithin(%d, %d) is %v, %d", pair[0], pair[1], got, code)
				}
			}
		}
	}
}

// TestNearestSpeciesIsWithin compares both functions: the nearest one is the first one within the least tolerance that has any.
func TestNearestSpeciesIsWithin(t *testing.T) {
	for shade := range int64(impl.MaxShade + 1) {
		var within []string
		for tolerance := int64(0); len(within) == 0; tolerance++ {
			within, _ = impl.SpeciesWithin(shade, tolerance)
		}
		if nearest, _ := impl.NearestSpecies(shade); nearest != within[0] {
			t.Errorf("NearestSpecies(%d) is %s, but nearest are %v", shade, nearest, within)
		}
	}
}

func veneer(species string, shade, grain int64) impl.Veneer {
	return impl.Veneer{Species: species, Shade: shade, Grain: grain}
}

// goodVeneers have all species, all shades and some directions, all in turn.
func goodVeneers() []impl.Veneer {
	var all []impl.Veneer
	for _, w := range woods {
		for shade := max(0, w.shade-15); shade <= min(100, w.shade+15); shade++ {
			all = append(all, veneer(w.name, shade, shade*37%180))
		}
		all = append(all, veneer(w.name, w.shade, 0), veneer(w.name, w.shade, 179), veneer(w.name, w.shade, 90))
	}
	return all
}

// badVeneers are not valid for one reason each.
func badVeneers() []impl.Veneer {
	all := []impl.Veneer{{}, {Grain: 5}, {Shade: 40}}
	for _, name := range noSpecies() {
		all = append(all, veneer(name, 40, 0))
	}
	for _, w := range woods {
		for _, far := range farNumbers {
			all = append(all, veneer(w.name, far, 0), veneer(w.name, w.shade, far))
		}
		all = append(all, veneer(w.name, w.shade-16, 0), veneer(w.name, w.shade+16, 0), veneer(w.name, -1, 0), veneer(w.name, 101, 0), veneer(w.name, w.shade-50, 0), veneer(w.name, w.shade+50, 0))
	}
	return all
}

func TestValidVeneer(t *testing.T) {
	for _, v := range goodVeneers() {
		if !impl.ValidVeneer(v) {
			t.Errorf("%v is valid", v)
		}
	}
	for _, v := range badVeneers() {
		if impl.ValidVeneer(v) {
			t.Errorf("%.100v is not valid", v)
		}
	}
	// Just the limits of the range of shades, of all shades, and of the directions.
	for _, c := range []struct {
		v    impl.Veneer
		want bool
	}{
		{veneer("oak", 25, 0), true}, {veneer("oak", 24, 0), false}, {veneer("oak", 55, 0), true}, {veneer("oak", 56, 0), false}, {veneer("holly", 0, 0), true}, {veneer("holly", -1, 0), false}, {veneer("holly", 20, 0), true}, {veneer("holly", 21, 0), false},
		{veneer("ebony", 100, 0), true}, {veneer("ebony", 101, 0), false}, {veneer("ebony", 80, 0), true}, {veneer("ebony", 79, 0), false}, {veneer("oak", 40, 179), true}, {veneer("oak", 40, 180), false}, {veneer("oak", 40, -1), false}, {veneer("maple", 0, 0), true}, {veneer("maple", -5, 0), false},
	} {
		if got := impl.ValidVeneer(c.v); got != c.want {
			t.Errorf("ValidVeneer(%v) is %v", c.v, got)
		}
	}
	for _, w := range woods {
		for shade := int64(-20); shade <= 120; shade++ {
			for grain := int64(-2); grain < 183; grain++ {
				want := 0 <= shade && shade <= 100 && w.shade-15 <= shade && shade <= w.shade+15 && 0 <= grain && grain <= 179
				if v := veneer(w.name, shade, grain); impl.ValidVeneer(v) != want {
					t.Fatalf("ValidVeneer(%v) is %v", v, !want)
				}
			}
		}
	}
}
