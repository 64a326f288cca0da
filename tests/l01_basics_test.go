package tests

import (
	"math"
	"math/big"
	"slices"
	"strconv"
	"strings"
	"testing"

	"loop.example/g00956/impl"
)

// extremes are the numbers at which arithmetic with int64 and the limits of chapter 1 go wrong first.
var extremes = []int64{
	math.MinInt64, math.MinInt64 + 1, -impl.MaxValue - 1, -impl.MaxValue, -1000001, -1000000,
	-65536, -12, -2, -1, 0, 1, 2, 11, 12, 65535, 65536, 1000000, 1000001,
	impl.MaxValue, impl.MaxValue + 1, math.MaxInt64 - 1, math.MaxInt64,
}

// oddTexts are byte strings that are no ordinary text.
func oddTexts() []string {
	every := make([]byte, 256)
	for k := range every {
		every[k] = byte(k)
	}
	return []string{
		"", " ", "-", ",", "--", ",,", "\x00", "\xff\xfe", "\xe2 \x82", "0", "-0", "a", "7a", string(every),
		strings.Repeat("9", 5000), strings.Repeat(" ", 5000), strings.Repeat(",", 5000),
		strings.Repeat("1,", 5000) + "1", strings.Repeat("a ", 5000),
	}
}

func TestCodeNames(t *testing.T) {
	names := strings.Fields("ok invalid range not-found exists full state order syntax format checksum truncated")
	for code, want := range names {
		if got := impl.CodeName(int64(code)); got != want {
			t.Errorf("CodeName(%d) is %q, want %q", code, got, want)
		}
	}
	for _, code := range []int64{math.MinInt64, -2, -1, 12, 13, 256, 1 << 32, math.MaxInt64} {
		if got := impl.CodeName(code); got != "" {
			t.Errorf("CodeName(%d) is %q, want the empty string", code, got)
		}
	}
}

func TestCodesAndLimits(t *testing.T) {
	codes := []int64{
		impl.OK, impl.ErrInvalid, impl.ErrRange, impl.ErrNotFound, impl.ErrExists, impl.ErrFull,
		impl.ErrState, impl.ErrOrder, impl.ErrSyntax, impl.ErrFormat, impl.ErrChecksum, impl.ErrTruncated,
	}
	for want, code := range codes {
		if code != int64(want) {
			t.Errorf("the code with the index %d is %d", want, code)
		}
	}
	limits := []int64{impl.MaxName, impl.MaxList, impl.MaxBudget, impl.MaxValue, impl.CrcStart}
	if want := []int64{10, 64, 20000, 1000000000000, 65535}; !slices.Equal(limits, want) {
		t.Errorf("limits %v, want %v", limits, want)
	}
}

func TestNames(t *testing.T) {
	for _, s := range []string{"a", "z", "a0", "z9", "star7", "abcdefghij", "a123456789"} {
		if !impl.IsName(s) {
			t.Errorf("%q is a name", s)
		}
	}
	for _, s := range []string{
		"", "abcdefghijk", "a1234567890", strings.Repeat("a", 256+1), "7", "7a", "0", "A", "aB", "a-b", "a b", " a", "a ",
		"a_", "-a", "`", "a`", "{", "a{", "a/", "a:", "/", ":", "\x00", "a\x00", "a\n", "\xc3\xa4", "a\xe4", "a\xff",
	} {
		if impl.IsName(s) {
			t.Errorf("%q is no name", s)
		}
	}
	for c := range 256 {
		b := byte(c)
		letter, digit := b >= 'a' && b <= 'z', b >= '0' && b <= '9'
		if got := impl.IsName(string([]byte{b})); got != letter {
			t.Errorf("IsName of the byte %d alone is %v", c, got)
		}
		if got := impl.IsName(string([]byte{'a', b})); got != (letter || digit) {
			t.Errorf("IsName of a and the byte %d is %v", c, got)
		}
	}
}

func TestDecimal(t *testing.T) {
	for n, want := range map[int64]string{
		0: "0", 7: "7", 10: "10", -1: "-1", -120: "-120", 1000000000000: "1000000000000",
		math.MaxInt64: "9223372036854775807", math.MinInt64: "-9223372036854775808",
	} {
		if got := impl.Decimal(n); got != want {
			t.Errorf("Decimal(%d) is %q", n, got)
		}
	}
}

func TestReadDecimal(t *testing.T) {
	for s, want := range map[string]int64{
		"0": 0, "5": 5, "-5": -5, "10": 10, "-100": -100,
		"999999999999999999": 999999999999999999, "-999999999999999999": -999999999999999999,
		"100000000000000000": 100000000000000000, "-100000000000000000": -100000000000000000,
	} {
		if got, ok := impl.ReadDecimal(s); got != want || !ok {
			t.Errorf("ReadDecimal(%q) is %d, %v", s, got, ok)
		}
	}
}

// notDecimal are texts that Decimal never writes, or that have too many digits.
var notDecimal = []string{
	"", "-", "--", "--1", "-0", "00", "01", "-01", "007", "+", "+1", "+0", "-+1", "+-1", " ", " 1", "1 ", "- 1", "1 2",
	"1\n", "\t1", "1\x00", "\x001", "1a", "a", "a1", "-a", "1-", "1-2", "0x1", "0b1", "1_0", "1e3", "1.0", "1.", ".5",
	"/", ":", "1/", "1:", "\xff", "\xd9\xa1", "inf", "nan",
	"1000000000000000000", "-1000000000000000000", "1234567890123456789", "9223372036854775807",
	"-9223372036854775808", "9223372036854775808", "18446744073709551616", "000000000000000001", "0000000000000000001",
}

func TestReadDecimalRefuses(t *testing.T) {
	for _, s := range append(notDecimal, "1,2", strings.Repeat("0", 100), strings.Repeat("1", 10000)) {
		if n, ok := impl.ReadDecimal(s); n != 0 || ok {
			t.Errorf("ReadDecimal(%q) is %d, %v", s, n, ok)
		}
	}
}

func TestDecimalIsReadBack(t *testing.T) {
	check := func(n int64) {
		text := impl.Decimal(n)
		got, ok := impl.ReadDecimal(text)
		short := n > -1000000000000000000 && n < 1000000000000000000
		if ok != short || short && got != n || !short && got != 0 {
			t.Errorf("%d is written %q and read as %d, %v", n, text, got, ok)
		}
	}
	for _, n := range extremes {
		check(n)
	}
	for n := int64(-2000); n <= 2000; n++ {
		check(n)
	}
	for p := int64(1); p <= 100000000000000000; p *= 10 {
		for _, n := range []int64{p - 1, p, p + 1, 10*p - 1} {
			check(n)
			check(-n)
		}
	}
	check(1000000000000000000)
	check(-1000000000000000000)
}

func TestSplitWords(t *testing.T) {
	for s, want := range map[string][]string{
		"": {}, " ": {}, "     ": {}, "a": {"a"}, " a  bc ": {"a", "bc"}, "a b c": {"a", "b", "c"},
		"  x": {"x"}, "x  ": {"x"}, "a\tb": {"a\tb"}, "\n a": {"\n", "a"}, "a\r\n": {"a\r\n"}, "a\x00 b": {"a\x00", "b"},
		"\u00a0 \u2003": {"\u00a0", "\u2003"}, "\xff \xfe": {"\xff", "\xfe"}, "\xe2 \x82": {"\xe2", "\x82"}, "-0 ,": {"-0", ","},
	} {
		if got := impl.SplitWords(s); !slices.Equal(got, want) {
			t.Errorf("SplitWords(%q) is %q, want %q", s, got, want)
		}
	}
	words := strings.Split(strings.Repeat("ab,", 999)+"ab", ",")
	if got := impl.SplitWords(strings.Join(words, "   ")); !slices.Equal(got, words) {
		t.Errorf("%d words are divided into %d", len(words), len(got))
	}
}

func TestListText(t *testing.T) {
	for want, list := range map[string][]int64{
		"-": {}, "0": {0}, "-1": {-1}, "3,0,-1": {3, 0, -1}, "5,5": {5, 5},
		"1000000000000": {impl.MaxValue}, "-1000000000000,1000000000000": {-impl.MaxValue, impl.MaxValue},
	} {
		if got := impl.ListText(list); got != want {
			t.Errorf("ListText(%v) is %q", list, got)
		}
	}
	if got := impl.ListText(nil); got != "-" {
		t.Errorf("ListText(nil) is %q", got)
	}
	if got, want := impl.ListText(make([]int64, 64)), strings.Repeat("0,", 63)+"0"; got != want {
		t.Errorf("ListText of 64 zeros is %q", got)
	}
}

func TestListTextRefuses(t *testing.T) {
	const max = impl.MaxValue
	for _, list := range [][]int64{
		make([]int64, 65), make([]int64, 1000), {max + 1}, {-max - 1}, {0, max + 1}, {-max - 1, 0}, {max, -max, max + 1, 3},
		{math.MinInt64}, {math.MaxInt64}, {1, math.MinInt64, 2},
	} {
		if got := impl.ListText(list); got != "" {
			t.Errorf("ListText(%v) is %q", list, got)
		}
	}
}

func TestReadList(t *testing.T) {
	for s, want := range map[string][]int64{
		"-": {}, "0": {0}, "-1": {-1}, "3,0,-1": {3, 0, -1}, "5,5": {5, 5},
		"-1000000000000,1000000000000": {-impl.MaxValue, impl.MaxValue},
	} {
		if got, ok := impl.ReadList(s); !slices.Equal(got, want) || !ok {
			t.Errorf("ReadList(%q) is %v, %v", s, got, ok)
		}
	}
	if got, ok := impl.ReadList(strings.Repeat("1,", 63) + "1"); len(got) != 64 || !ok {
		t.Errorf("64 numbers are read as %d, %v", len(got), ok)
	}
}

func TestReadListRefuses(t *testing.T) {
	texts := []string{
		",", ",,", ",1", "1,", "1,,2", ",1,2", "1,2,", "-,", ",-", "-,1", "1,-", "--", "- ", " -", "1, 2", "1 ,2", "1 2",
		"1;2", "1,2\n", "[1,2]", "1000000000001", "-1000000000001", "1,1000000000001", "-1000000000001,1",
		"999999999999999999", "-999999999999999999",
		strings.Repeat("0,", 64) + "0", strings.Repeat("0,", 64), strings.Repeat("0,", 65) + "0", strings.Repeat("1,", 9999) + "1",
		strings.Repeat(",", 63), strings.Repeat(",", 64), strings.Repeat("0,", 63),
	}
	for _, s := range notDecimal {
		texts = append(texts, "1,"+s, s+",1", "1,"+s+",1")
		if s != "-" {
			texts = append(texts, s)
		}
	}
	for _, s := range texts {
		if list, ok := impl.ReadList(s); list != nil || ok {
			t.Errorf("ReadList(%q) is %v, %v", s, list, ok)
		}
	}
}

func TestListsAreReadBack(t *testing.T) {
	values := []int64{0, 1, -1, 9, 10, -10, 99, impl.MaxValue - 1, impl.MaxValue, -impl.MaxValue, 1 - impl.MaxValue, 123456789}
	for n := 0; n <= impl.MaxList; n++ {
		list := make([]int64, n)
		for k := range list {
			list[k] = values[(k*5+n)%len(values)]
		}
		text := impl.ListText(list)
		got, ok := impl.ReadList(text)
		if !slices.Equal(got, list) || !ok {
			t.Errorf("%v is written %q and read as %v, %v", list, text, got, ok)
		}
	}
}

// TestReadTextsAreWrittenBack tries all short texts of telling bytes: one that is read must be what is written.
func TestReadTextsAreWrittenBack(t *testing.T) {
	texts := []string{""}
	for first := 0; len(texts[first]) < 5; first++ {
		for _, c := range "-,0 1+" {
			texts = append(texts, texts[first]+string(c))
		}
	}
	numbers, lists := 0, 0
	for _, s := range texts {
		if n, ok := impl.ReadDecimal(s); ok {
			numbers++
			if impl.Decimal(n) != s {
				t.Errorf("%q is read as %d", s, n)
			}
		}
		if list, ok := impl.ReadList(s); ok {
			lists++
			if impl.ListText(list) != s {
				t.Errorf("%q is read as %v", s, list)
			}
		}
	}
	if wantNumbers, wantLists := countDecimals(texts), countLists(texts); numbers != wantNumbers || lists != wantLists {
		t.Errorf("%d numbers and %d lists are read, want %d and %d", numbers, lists, wantNumbers, wantLists)
	}
}

func looksDecimal(s string) bool {
	n, err := strconv.ParseInt(s, 10, 64)
	return err == nil && strconv.FormatInt(n, 10) == s
}

func countDecimals(texts []string) int {
	n := 0
	for _, s := range texts {
		if looksDecimal(s) {
			n++
		}
	}
	return n
}

func countLists(texts []string) int {
	n := 0
	for _, s := range texts {
		if s == "-" || !slices.ContainsFunc(strings.Split(s, ","), func(p string) bool { return !looksDecimal(p) }) {
			n++
		}
	}
	return n
}

func TestCrc16(t *testing.T) {
	for _, c := range []struct {
		text        string
		start, want int64
	}{
		{"123456789", impl.CrcStart, 10673}, {"123456789", 0, 12739}, {"A", 65535, 47381}, {"\x00", 65535, 57840}, {"\xff", 65535, 65280},
		{"", 65535, 65535}, {"", 0, 0}, {"", 1, 1}, {"\x00", 0, 0}, {"\x01", 0, 4129}, {"\x00", 1, 256}, {"\x00", 256, 4129}, {"\x80", 0, 37256},
		{"a", -1, 0}, {"", -1, 0}, {"a", 65536, 0}, {"", 65536, 0}, {"a", math.MinInt64, 0}, {"a", math.MaxInt64, 0},
	} {
		if got := impl.Crc16(c.text, c.start); got != c.want {
			t.Errorf("Crc16(%q, %d) is %d, want %d", c.text, c.start, got, c.want)
		}
	}
}

func TestCrc16GoesOn(t *testing.T) {
	for _, start := range []int64{0, 1, 255, 256, 32768, 65534, 65535} {
		for _, s := range oddTexts() {
			whole := impl.Crc16(s, start)
			half := len(s) / 2
			if parts := impl.Crc16(s[half:], impl.Crc16(s[:half], start)); parts != whole {
				t.Errorf("Crc16 of %d bytes from %d is %d, in two parts %d", len(s), start, whole, parts)
			}
			if whole < 0 || whole > 65535 {
				t.Errorf("Crc16 of %d bytes from %d is %d", len(s), start, whole)
			}
		}
	}
	seen := map[int64]bool{}
	for c := range 256 {
		seen[impl.Crc16(string([]byte{byte(c)}), impl.CrcStart)] = true
	}
	if len(seen) != 256 {
		t.Errorf("256 bytes have %d check values", len(seen))
	}
}

func TestRoots(t *testing.T) {
	for n, want := range map[int64]int64{
		0: 0, 1: 1, 2: 1, 3: 1, 4: 2, 15: 3, 16: 4, 17: 4, -1: 0, -4: 0, math.MinInt64: 0,
		math.MaxInt64: 3037000499, 3037000499 * 3037000499: 3037000499, 3037000499*3037000499 - 1: 3037000498,
	} {
		if got := impl.RootOf(n); got != want {
			t.Errorf("RootOf(%d) is %d, want %d", n, got, want)
		}
	}
}

func TestRootsAreRoundedDown(t *testing.T) {
	check := func(n int64) {
		root := impl.RootOf(n)
		// Unsigned: the square behind the greatest root is beyond int64.
		low, high := uint64(root)*uint64(root), uint64(root+1)*uint64(root+1)
		if root < 0 || low > uint64(n) || high <= uint64(n) {
			t.Errorf("RootOf(%d) is %d", n, root)
		}
	}
	for n := int64(0); n <= 20000; n++ {
		check(n)
	}
	for r := int64(1); r <= 3037000499; r += r/97 + 1 {
		for _, n := range []int64{r*r - 1, r * r, r*r + 1, r*r + 2*r} {
			check(n)
		}
	}
	for bit := range 63 {
		check(int64(1) << bit)
		check(int64(1)<<bit - 1)
	}
	check(math.MaxInt64 - 1)
	check(math.MaxInt64)
}

func TestDivRound(t *testing.T) {
	const max = impl.MaxValue
	for _, c := range [][3]int64{
		{-5, 2, -3}, {5, 2, 3}, {5, -2, -3}, {-5, -2, 3}, {1, 2, 1}, {-1, 2, -1}, {1, -2, -1}, {-1, -2, 1}, {3, 2, 2}, {-3, 2, -2},
		{2, 4, 1}, {-2, 4, -1}, {6, 4, 2}, {-6, 4, -2}, {4, 3, 1}, {5, 3, 2}, {-4, 3, -1}, {-5, 3, -2}, {-1, 3, 0}, {1, 3, 0}, {7, 7, 1}, {0, 5, 0}, {0, -5, 0},
		{7, 0, 0}, {0, 0, 0}, {-7, 0, 0}, {max, 0, 0},
		{max, 1, max}, {-max, 1, -max}, {max, -1, -max}, {-max, -1, max}, {max, max, 1}, {-max, max, -1}, {1, max, 0}, {max, 2, max / 2},
		{max / 2, max, 1}, {max/2 - 1, max, 0}, {-max / 2, max, -1}, {max / 2, -max, -1}, {max - 1, max, 1}, {max - 1, 2, max / 2},
		{max + 1, 2, 0}, {-max - 1, 2, 0}, {max + 1, max + 1, 0}, {5, max + 1, 0}, {max, max + 1, 0}, {max, -max - 1, 0}, {-max - 1, 1, 0},
		{math.MinInt64, -1, 0}, {math.MinInt64, 1, 0}, {math.MaxInt64, 1, 0}, {1, math.MinInt64, 0}, {math.MinInt64, math.MinInt64, 0}, {math.MinInt64, 0, 0},
	} {
		if got := impl.DivRound(c[0], c[1]); got != c[2] {
			t.Errorf("DivRound(%d, %d) is %d, want %d", c[0], c[1], got, c[2])
		}
	}
}

func magnitudeOf(n int64) int64 { return max(n, -n) }

func TestQuotientsAreNearest(t *testing.T) {
	numbers := []int64{}
	for n := int64(-70); n <= 70; n++ {
		numbers = append(numbers, n)
	}
	for _, n := range []int64{999999, 1000000, 123456789, 499999999999, 500000000000, 500000000001, impl.MaxValue - 1, impl.MaxValue} {
		numbers = append(numbers, n, -n)
	}
	for _, a := range numbers {
		for _, b := range numbers {
			if b == 0 {
				continue
			}
			q := impl.DivRound(a, b)
			off := 2 * magnitudeOf(a-q*b)
			if off > magnitudeOf(b) || off == magnitudeOf(b) && magnitudeOf(q*b) < magnitudeOf(a) {
				t.Errorf("DivRound(%d, %d) is %d", a, b, q)
			}
		}
	}
}

func TestBlend(t *testing.T) {
	const most = 1000000
	for _, c := range [][6]int64{
		{0, 10, 4, 20, 1, 13}, {0, 10, 4, 20, 2, 15}, {0, 10, 4, 20, 3, 18}, {0, 0, 4, -6, 1, -2}, {0, 0, 4, -6, 3, -5}, {0, 7, 4, 7, 2, 7},
		{0, 10, 4, 20, -1, 10}, {0, 10, 4, 20, 0, 10}, {0, 10, 4, 20, 4, 20}, {0, 10, 4, 20, 5, 20}, {0, 10, 4, 20, 9, 20},
		{0, 10, 4, 20, math.MinInt64, 10}, {0, 10, 4, 20, math.MaxInt64, 20}, {-most, 3, most, 5, math.MinInt64, 3}, {-most, 3, most, 5, math.MaxInt64, 5},
		{4, 10, 4, 20, 3, 10}, {4, 10, 4, 20, 4, 10}, {4, 10, 4, 20, 9, 10}, {5, 10, 4, 20, 9, 10}, {5, 10, 4, 20, 4, 10}, {5, 10, 4, 20, 0, 10},
		{4, 10, -most, 20, math.MaxInt64, 10}, {most, -8, -most, 20, math.MinInt64, -8},
		{-most, -most, most, most, most - 1, most - 1}, {-most, -most, most, most, 0, 0}, {-most, most, most, -most, 7, -7}, {-most, -most, most, most, 1 - most, 1 - most},
		{-most, -most, most, most, -most, -most}, {-most, -most, most, most, most, most}, {-most, -most, most, most, most + 1, most},
		{0, 10, most + 1, 20, 5, 0}, {0, 10, -most - 1, 20, 5, 0}, {most + 1, 10, 9, 20, 5, 0}, {-most - 1, 10, 9, 20, 5, 0},
		{0, most + 1, 9, 20, 5, 0}, {0, -most - 1, 9, 20, 5, 0}, {0, 10, 9, most + 1, 5, 0}, {0, 10, 9, -most - 1, 5, 0},
		{0, most + 1, 9, 20, -1, 0}, {0, 10, 9, most + 1, -1, 0}, {0, 10, most + 1, 20, -1, 0}, {5, 10, 4, most + 1, 7, 0}, {-most - 1, 10, 4, 20, 9, 0},
		{math.MinInt64, 1, math.MaxInt64, 2, 0, 0}, {0, math.MinInt64, 4, math.MaxInt64, 2, 0},
	} {
		if got := impl.Blend(c[0], c[1], c[2], c[3], c[4]); got != c[5] {
			t.Errorf("Blend%v is %d, want %d", c[:5], got, c[5])
		}
	}
}

// onLine computes with fractions of any size what Blend returns between its ends.
func onLine(x0, y0, x1, y1, x int64) int64 {
	slope := big.NewRat(y1-y0, x1-x0)
	rise := slope.Mul(slope, big.NewRat(x-x0, 1))
	twice := new(big.Int).Mul(rise.Num(), big.NewInt(2))
	twice.Abs(twice).Add(twice, rise.Denom())
	steps := twice.Quo(twice, new(big.Int).Mul(rise.Denom(), big.NewInt(2))).Int64()
	return y0 + int64(rise.Sign())*steps
}

func TestBlendIsNearTheLine(t *testing.T) {
	ends := []int64{-1000000, -999999, -333, -2, 0, 1, 5, 777, 999999, 1000000}
	for _, x0 := range ends {
		for _, x1 := range ends {
			for _, y0 := range ends {
				for _, y1 := range ends {
					if x1 <= x0 {
						continue
					}
					for _, x := range []int64{x0, x0 + 1, (x0 + x1) / 2, x1 - 1, x1} {
						if got, want := impl.Blend(x0, y0, x1, y1, x), onLine(x0, y0, x1, y1, x); got != want {
							t.Fatalf("Blend(%d, %d, %d, %d, %d) is %d, want %d", x0, y0, x1, y1, x, got, want)
						}
					}
				}
			}
		}
	}
}
