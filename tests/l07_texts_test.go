package tests

import (
	"fmt"
	"regexp"
	"strconv"
	"strings"
	"testing"

	"loop.example/g00956/impl"
)

var veneerShape = regexp.MustCompile(`\A(ash|beech|birch|cherry|ebony|holly|maple|oak|rosewood|walnut) (0|[1-9][0-9]{0,2}) (0|[1-9][0-9]{0,2})\z`)

// veneerAsTold reads a text by its shape, and then looks at its numbers.
func veneerAsTold(s string) (impl.Veneer, bool) {
	parts := veneerShape.FindStringSubmatch(s)
	if parts == nil {
		return impl.Veneer{}, false
	}
	shade, _ := strconv.ParseInt(parts[2], 10, 64)
	grain, _ := strconv.ParseInt(parts[3], 10, 64)
	for _, w := range woods {
		if w.name == parts[1] && shade <= 100 && magnitudeOf(shade-w.shade) <= 15 && grain < 180 {
			return veneer(w.name, shade, grain), true
		}
	}
	return impl.Veneer{}, false
}

// checkReadVeneer compares with the words of the document, and reports whether s is read.
func checkReadVeneer(t *testing.T, s string) bool {
	t.Helper()
	got, ok := impl.ReadVeneer(s)
	if want, is := veneerAsTold(s); got != want || ok != is {
		t.Fatalf("ReadVeneer(%.200q) is %v, %v, want %v, %v", s, got, ok, want, is)
	}
	if ok && impl.VeneerText(got) != s {
		t.Fatalf("%q is read, but written %q", s, impl.VeneerText(got))
	}
	return ok
}

func TestVeneerText(t *testing.T) {
	for _, c := range []struct {
		v    impl.Veneer
		want string
	}{
		{veneer("oak", 40, 0), "oak 40 0"}, {veneer("ash", 20, 90), "ash 20 90"}, {veneer("holly", 0, 0), "holly 0 0"}, {veneer("ebony", 100, 179), "ebony 100 179"}, {veneer("rosewood", 95, 5), "rosewood 95 5"},
	} {
		if got := impl.VeneerText(c.v); got != c.want {
			t.Errorf("VeneerText(%v) is %q", c.v, got)
		}
		if got, ok := impl.ReadVeneer(c.want); got != c.v || !ok {
			t.Errorf("ReadVeneer(%q) is %v, %v", c.want, got, ok)
		}
	}
	for _, v := range badVeneers() {
		if got := impl.VeneerText(v); got != "" {
			t.Errorf("VeneerText(%.100v) is %.100q", v, got)
		}
	}
}

func TestVeneersAreReadBack(t *testing.T) {
	for _, w := range woods {
		for shade := max(0, w.shade-15); shade <= min(100, w.shade+15); shade++ {
			for grain := range int64(impl.HalfTurn) {
				v := veneer(w.name, shade, grain)
				text := impl.VeneerText(v)
				if got, ok := impl.ReadVeneer(text); got != v || !ok || text != fmt.Sprintf("%s %d %d", w.name, shade, grain) {
					t.Fatalf("%v is written %q and read as %v, %v", v, text, got, ok)
				}
			}
		}
	}
}

func TestReadVeneerRefuses(t *testing.T) {
	for _, s := range []string{
		// Words that are missing or too many, and other blanks.
		"", " ", "  ", "   ", "oak", "oak ", "oak 40", "oak 40 ", "40 0", " 40 0", "oak  0", "oak 40 0 ", " oak 40 0", "oak  40 0", "oak 40  0", "oak 40 0 0", "oak 40 0 oak", "oak oak 40 0", "oak 40 0 oak 40 0", "oak40 0", "oak 400", "oak400", "oak\t40 0", "oak 40\t0", "oak 40 0\n", "\noak 40 0", "oak 40 0\x00",
		"oak 40\x000", "oak\xa040 0", "oak,40,0", "oak;40;0", "oak/40/0", "oak 40,0", "oak 40 0\r\n",
		// Numbers with leading zeros or signs, and what is none.
		"oak 040 0", "oak 40 00", "oak 40 01", "oak 40 007", "oak +40 0", "oak 40 +0", "oak -40 0", "oak 40 -0", "oak 40 -1", "oak 4_0 0", "oak 0x28 0", "oak 40.0 0", "oak 40 0.0", "oak 4e1 0", "oak x 0", "oak 40 x", "oak - 0", "oak 40 -", "holly x 0", "holly - 0", "holly -0 0", "holly 00 0", "oak 0 40 0", "oak 40 180 0",
		"oak 18446744073709551656 0", "oak 40 18446744073709551616", "oak 1000000000000000000000000040 0", "oak 40 0000000000000000000000",
		// Veneers that are not valid.
		"oak 56 0", "oak 24 0", "oak 101 0", "oak 40 180", "oak 40 360", "holly -1 0", "holly 21 0", "ebony 101 0", "ebony 79 0", "pine 40 0", "Oak 40 0", "OAK 40 0", "oa 40 0", "oaks 40 0", "ash 40 0", "40 oak 0", "40 0 oak", "0 40 oak", "oak 0 40",
	} {
		if checkReadVeneer(t, s) {
			t.Errorf("%q is read", s)
		}
	}
	for _, v := range badVeneers() {
		if s := fmt.Sprintf("%s %d %d", v.Species, v.Shade, v.Grain); checkReadVeneer(t, s) {
			t.Errorf("%.100q is read", s)
		}
	}
	for _, s := range append(append(oddTexts(), notDecimal...), strings.Repeat("oak 40 0 ", 10000), "oak 40 "+strings.Repeat("0", 100000), "oak "+strings.Repeat("4", 100000)+" 0", strings.Repeat(" ", 100000), "oak 40 0"+strings.Repeat(" ", 100000)) {
		for _, text := range []string{s, "oak " + s, "oak 40 " + s, s + " 40 0", "oak " + s + " 0", "holly " + s + " 0", "oak 40 0" + s, s + "oak 40 0", "oak 40 0 " + s} {
			// Some of these are a veneer, like that with 0 behind it.
			checkReadVeneer(t, text)
		}
	}
}

// TestReadVeneersAreWrittenBack tries all prefixes and ends, and all texts with one byte less, changed or more.
func TestReadVeneersAreWrittenBack(t *testing.T) {
	every := make([]byte, 256)
	for k := range every {
		every[k] = byte(k)
	}
	read := 0
	for _, v := range goodVeneers() {
		text := impl.VeneerText(v)
		forNearTexts(text, []byte("0189 -+ax,\n"), func(s string) {
			if checkReadVeneer(t, s) && s != text {
				read++
			}
		})
	}
	for _, text := range []string{"oak 40 0", "holly 0 0", "ebony 100 179", "maple 9 99", "rosewood 80 10"} {
		forNearTexts(text, every, func(s string) { checkReadVeneer(t, s) })
		forNearTexts(text, every[32:128], func(near string) {
			forNearTexts(near, []byte("0 9"), func(s string) { checkReadVeneer(t, s) })
		})
	}
	if read < 1000 {
		t.Errorf("only %d other texts are read", read)
	}
}
