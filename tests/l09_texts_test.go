package tests

import (
	"fmt"
	"regexp"
	"slices"
	"strconv"
	"strings"
	"testing"

	"loop.example/g00956/impl"
)

// writtenLeaf is the text of a leaf that may be invalid.
func writtenLeaf(l impl.Leaf) string {
	parts := []string{fmt.Sprintf("%s/%s/%d/%s %d %d/%dx%d", l.Id, l.Flitch, l.Number, l.Veneer.Species, l.Veneer.Shade, l.Veneer.Grain, l.Width, l.Length)}
	for _, d := range l.Defects {
		parts = append(parts, fmt.Sprintf("%d,%d,%d,%d", d.X, d.Y, d.Width, d.Length))
	}
	return strings.Join(parts, "/")
}

// leafShape has no number that is too large for an int64.
var leafShape = func() *regexp.Regexp {
	const number, name = `(0|[1-9][0-9]{0,17})`, `([a-z][a-z0-9]{0,9})`
	return regexp.MustCompile(`\A` + name + `/` + name + `/` + number + `/([^/]*)/` + number + `x` + number + `((?:/` + strings.Repeat(number+`,`, 3) + number + `)*)\z`)
}()

// readAsTold reads a text by its shape, and then looks at the leaf.
func readAsTold(s string) (impl.Leaf, bool) {
	parts := leafShape.FindStringSubmatch(s)
	if parts == nil {
		return impl.Leaf{}, false
	}
	v, isVeneer := veneerAsTold(parts[4])
	number := func(s string) int64 { n, _ := strconv.ParseInt(s, 10, 64); return n }
	l := impl.Leaf{Id: parts[1], Flitch: parts[2], Number: number(parts[3]), Veneer: v, Width: number(parts[5]), Length: number(parts[6])}
	for _, text := range strings.Split(parts[7], "/")[1:] {
		n := strings.Split(text, ",")
		l.Defects = append(l.Defects, box(number(n[0]), number(n[1]), number(n[2]), number(n[3])))
	}
	if !isVeneer || !leafAsTold(l) {
		return impl.Leaf{}, false
	}
	return l, true
}

// checkReadLeaf compares with the words of the document, and reports whether s is read.
func checkReadLeaf(t *testing.T, s string) bool {
	t.Helper()
	got, ok := impl.ReadLeaf(s)
	if want, is := readAsTold(s); !sameLeaves(got, want) || ok != is {
		t.Fatalf("ReadLeaf(%.200q) is %v, %v, want %v, %v", s, got, ok, want, is)
	}
	if ok && impl.LeafText(got) != s {
		t.Fatalf("%q is read, but written %q", s, impl.LeafText(got))
	}
	return ok
}

func TestLeafText(t *testing.T) {
	for _, c := range []struct {
		l    impl.Leaf
		want string
	}{
		{leafOf(100, 100, box(40, 0, 20, 100)), "a/f/0/oak 40 0/100x100/40,0,20,100"}, {leafOf(10, 10), "a/f/0/oak 40 0/10x10"}, {givenLeaves()[0], "a/f1/3/oak 40 0/100x200/40,0,20,200"}, {givenLeaves()[1], "b/f1/1/oak 42 0/50x50/0,0,10,10/5,5,10,10"},
		{leafOf(most, 10, slices.Repeat([]impl.Box{box(19999, 9, 1, 1)}, 6)...), "a/f/0/oak 40 0/20000x10" + strings.Repeat("/19999,9,1,1", 6)},
		{impl.Leaf{Id: "abcdefghij", Flitch: "a123456789", Number: 999, Veneer: veneer("ebony", 100, 179), Width: 10, Length: 20000}, "abcdefghij/a123456789/999/ebony 100 179/10x20000"},
	} {
		if got := impl.LeafText(c.l); got != c.want {
			t.Errorf("LeafText(%v) is %q", c.l, got)
		}
		if got, ok := impl.ReadLeaf(c.want); !sameLeaves(got, c.l) || !ok {
			t.Errorf("ReadLeaf(%q) is %v, %v", c.want, got, ok)
		}
	}
	forBadLeaves(func(reason string, l impl.Leaf) {
		if got := impl.LeafText(l); got != "" {
			t.Errorf("LeafText(%.300v) is %.300q: %s", fmt.Sprint(l), got, reason)
		}
	})
}

func TestLeavesAreReadBack(t *testing.T) {
	list := goodLeaves()
	for seed := range 2000 {
		list = append(list, smallLeaf(seed), farLeaf(seed))
	}
	for k, v := range goodVeneers() {
		list = append(list, changedLeaf(list[k], func(l *impl.Leaf) { l.Veneer = v }))
	}
	for _, l := range list {
		text := impl.LeafText(l)
		if got, ok := impl.ReadLeaf(text); !impl.SameLeaf(got, l) || !sameLeaves(got, l) || !ok || text != writtenLeaf(l) {
			t.Fatalf("%v is written %q and read as %v, %v", l, text, got, ok)
		}
	}
}

func TestReadLeafRefuses(t *testing.T) {
	const good = "a/f/0/oak 40 0/100x100/40,0,20,100"
	for _, s := range []string{
		// The texts of the given test.
		"", "a/f/0", "a/f/0/oak 40 0/9x10", "a/f/1000/oak 40 0/10x10", "a/f/0/oak 40 0/10x10/0,0,11,10", "a/f/0/oak 40 0/10x10/0,0,0,10", "a//0/oak 40 0/10x10", "a/f/0/oak 40/10x10", "a/f/0/oak 40 0/10x10" + strings.Repeat("/1,1,1,1", 7),
		// Slashes that are missing, superfluous or something else, and parts in another order.
		"/", "//", "////", "/////", "a", "a/f", "a/f/0/oak 40 0", "a/f/0/oak 40 0/", "a/f/0/oak 40 0/100x100/", "a/f/0/oak 40 0/100x100//", "/" + good, good + "/", good + "//", good + "/40,0,20,100/", "a/f/0/oak 40 0//100x100", "a/f/0/oak 40 0/100x100//40,0,20,100", "a/f/0//oak 40 0/100x100", "a/f//0/oak 40 0/100x100", "a//f/0/oak 40 0/100x100",
		"a/f/0/oak 40 0 100x100", "a/f/0/oak 40 0100x100", "a/f/0 oak 40 0/100x100", "a/f0/oak 40 0/100x100", "af/0/oak 40 0/100x100", "a/f/0/oak/40/0/100x100", "a/f/0/oak 40 0/100x100 40,0,20,100", "a/f/0/oak 40 0/100x10040,0,20,100", "a/f/0/oak 40 0/100x100,40,0,20,100", "a,f,0,oak 40 0,100x100", "a f 0 oak 40 0 100x100", "a;f;0;oak 40 0;100x100", "a\\f\\0\\oak 40 0\\100x100",
		"a/f/0/100x100/oak 40 0", "a/0/f/oak 40 0/100x100", "0/a/f/oak 40 0/100x100", "a/f/oak 40 0/0/100x100", "a/f/0/oak 40 0/40,0,20,100/100x100", "a/f/0/40,0,20,100/oak 40 0/100x100", good + good, good + " ", " " + good, good + "\n", "\n" + good, good + "\x00", "\x00" + good, strings.ToUpper(good),
		// Names.
		"/f/0/oak 40 0/100x100", "A/f/0/oak 40 0/100x100", "7/f/0/oak 40 0/100x100", "a-/f/0/oak 40 0/100x100", "a /f/0/oak 40 0/100x100", " a/f/0/oak 40 0/100x100", "abcdefghijk/f/0/oak 40 0/100x100", "a/F/0/oak 40 0/100x100", "a/7f/0/oak 40 0/100x100", "a/ f/0/oak 40 0/100x100", "a/f /0/oak 40 0/100x100", "a/abcdefghijk/0/oak 40 0/100x100",
		// Numbers.
		"a/f//oak 40 0/100x100", "a/f/00/oak 40 0/100x100", "a/f/01/oak 40 0/100x100", "a/f/+1/oak 40 0/100x100", "a/f/+0/oak 40 0/100x100", "a/f/-0/oak 40 0/100x100", "a/f/-1/oak 40 0/100x100", "a/f/-/oak 40 0/100x100", "a/f/ 1/oak 40 0/100x100", "a/f/1 /oak 40 0/100x100", "a/f/x/oak 40 0/100x100", "a/f/1.0/oak 40 0/100x100", "a/f/0x1/oak 40 0/100x100", "a/f/1_0/oak 40 0/100x100", "a/f/1e2/oak 40 0/100x100", "a/f/18446744073709551617/oak 40 0/100x100", "a/f/1,2/oak 40 0/100x100",
		// Veneers.
		"a/f/0//100x100", "a/f/0/ /100x100", "a/f/0/oak/100x100", "a/f/0/oak 40 /100x100", "a/f/0/ oak 40 0/100x100", "a/f/0/oak 40 0 /100x100", "a/f/0/oak  40 0/100x100", "a/f/0/oak 040 0/100x100", "a/f/0/oak 40 00/100x100", "a/f/0/oak +40 0/100x100", "a/f/0/oak 40 +0/100x100", "a/f/0/oak 40 -0/100x100", "a/f/0/oak,40,0/100x100", "a/f/0/Oak 40 0/100x100", "a/f/0/pine 40 0/100x100", "a/f/0/oak 56 0/100x100", "a/f/0/oak 40 180/100x100", "a/f/0/oak 40 0 0/100x100",
		// Sides.
		"a/f/0/oak 40 0/100", "a/f/0/oak 40 0/100x", "a/f/0/oak 40 0/x100", "a/f/0/oak 40 0/x", "a/f/0/oak 40 0/100X100", "a/f/0/oak 40 0/100*100", "a/f/0/oak 40 0/100,100", "a/f/0/oak 40 0/100 100", "a/f/0/oak 40 0/100 x100", "a/f/0/oak 40 0/100x 100", "a/f/0/oak 40 0/ 100x100", "a/f/0/oak 40 0/100x100 ", "a/f/0/oak 40 0/100xx100", "a/f/0/oak 40 0/100x100x100", "a/f/0/oak 40 0/x100x100", "a/f/0/oak 40 0/100x100x",
		"a/f/0/oak 40 0/0100x100", "a/f/0/oak 40 0/100x0100", "a/f/0/oak 40 0/+100x100", "a/f/0/oak 40 0/100x+100", "a/f/0/oak 40 0/-100x100", "a/f/0/oak 40 0/100x-100", "a/f/0/oak 40 0/9x100", "a/f/0/oak 40 0/100x9", "a/f/0/oak 40 0/20001x100", "a/f/0/oak 40 0/100x20001", "a/f/0/oak 40 0/18446744073709551716x100", "a/f/0/oak 40 0/100x18446744073709551716", "a/f/0/oak 40 0/100.0x100", "a/f/0/oak 40 0/0x0x100",
		// Defects.
		"a/f/0/oak 40 0/100x100/-", "a/f/0/oak 40 0/100x100/40", "a/f/0/oak 40 0/100x100/40,0", "a/f/0/oak 40 0/100x100/40,0,20", "a/f/0/oak 40 0/100x100/40,0,20,100,1", "a/f/0/oak 40 0/100x100/40,0,20,100,", "a/f/0/oak 40 0/100x100/,40,0,20,100", "a/f/0/oak 40 0/100x100/40,,0,20,100", "a/f/0/oak 40 0/100x100/40,0,20,", "a/f/0/oak 40 0/100x100/,0,20,100", "a/f/0/oak 40 0/100x100/40 0 20 100", "a/f/0/oak 40 0/100x100/40, 0,20,100", "a/f/0/oak 40 0/100x100/ 40,0,20,100", "a/f/0/oak 40 0/100x100/40,0,20,100 ", "a/f/0/oak 40 0/100x100/40,0 20,100", "a/f/0/oak 40 0/100x100/40,0,20x100", "a/f/0/oak 40 0/100x100/40;0;20;100", "a/f/0/oak 40 0/100x100/40/0/20/100",
		"a/f/0/oak 40 0/100x100/040,0,20,100", "a/f/0/oak 40 0/100x100/40,00,20,100", "a/f/0/oak 40 0/100x100/40,0,020,100", "a/f/0/oak 40 0/100x100/40,0,20,0100", "a/f/0/oak 40 0/100x100/+40,0,20,100", "a/f/0/oak 40 0/100x100/40,+0,20,100", "a/f/0/oak 40 0/100x100/40,-0,20,100", "a/f/0/oak 40 0/100x100/40,0,+20,100", "a/f/0/oak 40 0/100x100/40,0,20,+100", "a/f/0/oak 40 0/100x100/x,0,20,100", "a/f/0/oak 40 0/100x100/40,0,20,1e2", "a/f/0/oak 40 0/100x100/40,0,0x14,100",
		"a/f/0/oak 40 0/100x100/-1,0,20,100", "a/f/0/oak 40 0/100x100/40,-1,20,100", "a/f/0/oak 40 0/100x100/40,0,61,100", "a/f/0/oak 40 0/100x100/40,0,20,101", "a/f/0/oak 40 0/100x100/40,0,0,100", "a/f/0/oak 40 0/100x100/40,0,20,0", "a/f/0/oak 40 0/100x100/40,0,-20,100", "a/f/0/oak 40 0/100x100/100,0,1,100", "a/f/0/oak 40 0/100x100/40,100,20,1", "a/f/0/oak 40 0/100x100/18446744073709551656,0,20,100",
		// The last defect of two, and the first one.
		good + "/40,0,20", good + "/40,0,20,100,0", good + "/-", good + "/40,0,20,101", good + "/40,0,20,0100", "a/f/0/oak 40 0/100x100/40,0,20/40,0,20,100", "a/f/0/oak 40 0/100x100/-/40,0,20,100", "a/f/0/oak 40 0/100x100/40,0,20,101/40,0,20,100",
	} {
		if checkReadLeaf(t, s) {
			t.Errorf("%q is read", s)
		}
	}
	forBadLeaves(func(reason string, l impl.Leaf) {
		if got, ok := impl.ReadLeaf(writtenLeaf(l)); ok || !isZeroLeaf(got) {
			t.Errorf("%.300q is read as %v: %s", writtenLeaf(l), got, reason)
		}
	})
}

// TestReadLeafCounts has as many defects as there may be, and more, and very long parts.
func TestReadLeafCounts(t *testing.T) {
	const base = "a/f/0/oak 40 0/100x100"
	for _, n := range []int{0, 1, 5, 6, 7, 8, 100000} {
		if _, ok := impl.ReadLeaf(base + strings.Repeat("/40,0,20,100", n)); ok != (n <= impl.MaxDefects) {
			t.Errorf("a leaf with %d defects is read: %v", n, ok)
		}
	}
	full := base + strings.Repeat("/40,0,20,100", impl.MaxDefects)
	for _, end := range []string{"", "/", "//", "/-", "/0", "/0,0,1,1", " ", ",", ",1", "0", strings.Repeat("/", 100000), strings.Repeat(",1", 100000), strings.Repeat("0", 100000), strings.Repeat(" ", 100000)} {
		if got, ok := impl.ReadLeaf(full + end); ok != (end == "") || !ok && !isZeroLeaf(got) {
			t.Errorf("the text of a leaf with all defects and %.20q behind it is read as %v, %v", end, got, ok)
		}
	}
	for _, s := range append(append(oddTexts(), notDecimal...), strings.Repeat("/", 100000), strings.Repeat(base+"/", 10000), strings.Repeat("a", 100000), strings.Repeat("0", 100000), strings.Repeat("x", 100000)) {
		for _, text := range []string{s, s + "/f/0/oak 40 0/100x100", "a/" + s + "/0/oak 40 0/100x100", "a/f/" + s + "/oak 40 0/100x100", "a/f/0/" + s + "/100x100", "a/f/0/oak " + s + " 0/100x100", "a/f/0/oak 40 " + s + "/100x100", "a/f/0/oak 40 0/" + s, "a/f/0/oak 40 0/" + s + "x100", "a/f/0/oak 40 0/100x" + s, base + s, base + "/" + s, base + "/" + s + ",0,20,100", base + "/40,0,20," + s, s + base, full + "/" + s} {
			// Some of these are a leaf, like that with the Number 0.
			checkReadLeaf(t, text)
		}
	}
}

// TestReadLeavesAreWrittenBack tries all prefixes and ends, and all texts with one byte less, changed or more.
func TestReadLeavesAreWrittenBack(t *testing.T) {
	every := make([]byte, 256)
	for k := range every {
		every[k] = byte(k)
	}
	read := 0
	for _, text := range []string{"a/f/0/oak 40 0/100x100/40,0,20,100", "a/f/0/oak 40 0/10x10", "b/f1/1/oak 42 0/50x50/0,0,10,10/5,5,10,10", "abcdefghij/a123456789/999/ebony 100 179/10x20000", "z9/z/10/holly 0 0/20000x11/0,0,1,1/19999,10,1,1/5,5,5,5/6,6,4,4/1,1,1,1/2,2,2,2"} {
		forNearTexts(text, every, func(s string) {
			if checkReadLeaf(t, s) && s != text {
				read++
			}
		})
	}
	for _, l := range goodLeaves() {
		forNearTexts(impl.LeafText(l), []byte("0189 -+,/xXa\n"), func(s string) { checkReadLeaf(t, s) })
	}
	forNearTexts("a/f/0/oak 40 0/10x10/0,0,1,1", []byte("0 9/,x"), func(near string) {
		forNearTexts(near, []byte("01/,"), func(s string) { checkReadLeaf(t, s) })
	})
	if read < 1000 {
		t.Errorf("only %d other texts are read", read)
	}
}
