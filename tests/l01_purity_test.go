package tests

import (
	"fmt"
	"math"
	"slices"
	"testing"

	"loop.example/g00956/impl"
)

// numberResults calls every function of chapter 1 that takes numbers.
func numberResults(a, b, c, d, e int64) string {
	return fmt.Sprint(impl.CodeName(a), impl.Decimal(a), impl.RootOf(a), impl.DivRound(a, b),
		impl.Blend(a, b, c, d, e), impl.ListText([]int64{a, b, c, d, e}))
}

// textResults calls every function of chapter 1 that takes a text.
func textResults(s string, start int64) string {
	n, isNumber := impl.ReadDecimal(s)
	list, isList := impl.ReadList(s)
	return fmt.Sprintf("%v %v %v %v %v %q %v", impl.IsName(s), n, isNumber, list, isList, impl.SplitWords(s), impl.Crc16(s, start))
}

func TestEveryNumberReturnsTheSameAgain(t *testing.T) {
	for _, a := range extremes {
		for _, b := range extremes {
			for _, c := range extremes {
				e := a/2 + b/2 // between the ends, beyond them, or neither
				if first, second := numberResults(a, b, c, a, e), numberResults(a, b, c, a, e); first != second {
					t.Fatalf("%d, %d, %d: %s and then %s", a, b, c, first, second)
				}
			}
		}
	}
}

func TestEveryTextReturnsTheSameAgain(t *testing.T) {
	for _, s := range oddTexts() {
		for _, start := range extremes {
			if first, second := textResults(s, start), textResults(s, start); first != second {
				t.Fatalf("%q, %d: %s and then %s", s, start, first, second)
			}
		}
	}
}

func TestEveryListReturnsTheSameAgain(t *testing.T) {
	for _, n := range []int{0, 1, 2, 63, 64, 65, 66, 100000} {
		for _, value := range extremes {
			list := make([]int64, n)
			for k := range list {
				list[k] = value
			}
			if first, second := impl.ListText(list), impl.ListText(list); first != second {
				t.Fatalf("%d times %d: %q and then %q", n, value, first, second)
			}
		}
	}
}

func TestListTextChangesNoArgument(t *testing.T) {
	for _, n := range []int{0, 1, 3, 64, 65} {
		whole := make([]int64, 100)
		for k := range whole {
			whole[k] = int64(50 - k*k)
		}
		before := slices.Clone(whole)
		impl.ListText(whole[:n])
		whole[0] = math.MaxInt64
		impl.ListText(whole[:n])
		whole[0] = before[0]
		if !slices.Equal(whole, before) {
			t.Errorf("ListText changes a list of %d numbers, or what lies behind it", n)
		}
	}
}

func TestNilAndEmptyListsAreEquivalent(t *testing.T) {
	if a, b := impl.ListText(nil), impl.ListText([]int64{}); a != b {
		t.Errorf("ListText of nil is %q, of an empty list %q", a, b)
	}
}

func TestReadListReturnsNewMemory(t *testing.T) {
	for _, s := range []string{"-", "0", "1,2,3"} {
		kept, _ := impl.ReadList(s)
		want := slices.Clone(kept)
		other, _ := impl.ReadList(s)
		other = other[:cap(other)]
		for k := range other {
			other[k] = 99
		}
		again, ok := impl.ReadList(s)
		if !slices.Equal(kept, want) || !slices.Equal(again, want) || !ok {
			t.Errorf("ReadList(%q): %v and %v after another result was changed, want %v", s, kept, again, want)
		}
	}
}

func TestSplitWordsReturnsNewMemory(t *testing.T) {
	for _, s := range []string{"", "a", " a  bc "} {
		kept := impl.SplitWords(s)
		want := slices.Clone(kept)
		other := impl.SplitWords(s)
		other = other[:cap(other)]
		for k := range other {
			other[k] = "changed"
		}
		again := impl.SplitWords(s)
		if !slices.Equal(kept, want) || !slices.Equal(again, want) {
			t.Errorf("SplitWords(%q): %q and %q after another result was changed, want %q", s, kept, again, want)
		}
	}
}
