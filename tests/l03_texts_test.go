package tests

import (
	"slices"
	"strings"
	"testing"

	"loop.example/g00956/impl"
)

// written is the text of points that may be no valid polygon.
func written(p []impl.Point) string {
	var words []string
	for _, corner := range p {
		words = append(words, impl.PointText(corner))
	}
	return strings.Join(words, " ")
}

func TestPolygonText(t *testing.T) {
	for _, text := range goodTexts {
		if got := impl.PolygonText(poly(text)); got != text {
			t.Errorf("PolygonText(%s) is %q", text, got)
		}
	}
	forBadPolygons(func(reason string, p []impl.Point) {
		if got := impl.PolygonText(p); got != "" {
			t.Errorf("PolygonText(%v) is %q: %s", p, got, reason)
		}
	})
}

func TestReadPolygonExample(t *testing.T) {
	p, ok := impl.ReadPolygon("0,0 9,0 0,9")
	if !slices.Equal(p, []impl.Point{pt(0, 0), pt(9, 0), pt(0, 9)}) || !ok {
		t.Fatalf("the example is read as %v, %v", p, ok)
	}
	if area, code := impl.AreaTwice(p); area != 81 || code != impl.OK {
		t.Errorf("the example has the doubled area %d, %d", area, code)
	}
}

func TestPolygonsAreReadBack(t *testing.T) {
	for _, p := range append(goodPolygons(), smallPolygons()...) {
		if got, ok := impl.ReadPolygon(impl.PolygonText(p)); !slices.Equal(got, p) || !ok {
			t.Errorf("%v is written %q and read as %v, %v", p, impl.PolygonText(p), got, ok)
		}
	}
}

func checkRefused(t *testing.T, s string) {
	t.Helper()
	if p, ok := impl.ReadPolygon(s); p != nil || ok {
		t.Errorf("ReadPolygon(%.200q) is %v, %v", s, p, ok)
	}
}

func TestReadPolygonRefuses(t *testing.T) {
	for _, s := range []string{
		"", " ", "-", "0,0", "0,0 9,0", "0,0 9,0 ", "0,0 9,0 0", "0,0 9,0 9", "0,0 9,0 0,", "0,0 9,0 ,9", "0,0 9,0 0,9,", "0,0 9,0 0,9,0", "0,0,9,0,0,9", "0 0 9 0 0 9",
		// Blanks.
		"0,0  9,0 0,9", "0,0 9,0  0,9", " 0,0 9,0 0,9", "0,0 9,0 0,9 ", "  0,0 9,0 0,9", "0,0 9,0 0,9  ", "0,0 9, 0 0,9", "0,0 9 ,0 0,9", "0,0\t9,0 0,9", "0,0\n9,0\n0,9", "0,0 9,0 0,9\n", "0,0;9,0;0,9", "0,0 9,0 0,9\x00", "0,0\xc2\xa09,0 0,9",
		// Points that are not canonical, or not valid.
		"00,0 9,0 0,9", "0,0 09,0 0,9", "0,0 9,00 0,9", "0,0 9,-0 0,9", "-0,0 9,0 0,9", "0,0 +9,0 0,9", "0,0 9,0 0,9.0", "0,0 9,0 0,0x9", "0,0 9,0 0,9a", "0,0 a 9,0 0,9", "-1,0 9,0 0,9", "0,0 20001,0 0,9", "0,0 9,0 0,20001", "0,0 9,0 0,18446744073709551625",
		"0,0 18446744073709551625,0 0,9", "0,0 9,0 0,9 x",
	} {
		checkRefused(t, s)
	}
	forBadPolygons(func(_ string, p []impl.Point) { checkRefused(t, written(p)) })
	for _, s := range append(oddTexts(), notDecimal...) {
		checkRefused(t, s)
		checkRefused(t, s+" 0,0 9,0 0,9")
		checkRefused(t, "0,0 9,0 0,9 "+s)
		checkRefused(t, "0,0 "+s+" 9,0 0,9")
	}
}

func TestReadPolygonCountsItsPoints(t *testing.T) {
	for n := 3; n <= impl.MaxCorners; n++ {
		for _, p := range [][]impl.Point{strip(n), saw(n)} {
			if got, ok := impl.ReadPolygon(written(p)); !slices.Equal(got, p) || !ok {
				t.Errorf("%q with %d points is read as %v, %v", written(p), n, got, ok)
			}
		}
	}
	for _, p := range [][]impl.Point{strip(impl.MaxCorners + 1), saw(impl.MaxCorners + 1), strip(1000)} {
		checkRefused(t, written(p))
	}
	whole := written(strip(impl.MaxCorners))
	for _, end := range []string{" ", "  ", " 1", " 10,39", " 10,39 10,38", "\n", strings.Repeat(" 1,1", 100000)} {
		checkRefused(t, whole+end)
	}
}

// TestReadPolygonsAreWrittenBack changes, removes and adds single bytes of texts: one that is read must be what is written.
func TestReadPolygonsAreWrittenBack(t *testing.T) {
	read := 0
	check := func(s string) {
		if p, ok := impl.ReadPolygon(s); ok {
			read++
			if impl.PolygonText(p) != s {
				t.Errorf("%q is read as %v", s, p)
			}
		} else if p != nil {
			t.Errorf("%q is refused, but gives %v", s, p)
		}
	}
	for _, text := range goodTexts {
		for k := range len(text) + 1 {
			for c := range 256 {
				check(text[:k] + string([]byte{byte(c)}) + text[k:])
				if k < len(text) {
					check(text[:k] + string([]byte{byte(c)}) + text[k+1:])
				}
			}
			if k < len(text) {
				check(text[:k] + text[k+1:])
			}
		}
	}
	if read < len(goodTexts) {
		t.Errorf("only %d texts are read", read)
	}
}
