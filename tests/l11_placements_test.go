package tests

import (
	"fmt"
	"math"
	"slices"
	"strings"
	"testing"

	"loop.example/g00956/impl"
)

func TestConstantsOfNesting(t *testing.T) {
	kinds := []int64{impl.NfLeaf, impl.NfSpecies, impl.NfShade, impl.NfGrain, impl.NfEdge, impl.NfDefect, impl.NfNear, impl.NfMissing}
	if limits := []int64{impl.MaxPlaced, impl.MaxNestSpace, impl.MaxGrid}; !slices.Equal(kinds, []int64{1, 2, 3, 4, 5, 6, 7, 8}) || !slices.Equal(limits, []int64{24, 500, 400}) {
		t.Errorf("kinds %v and limits %v", kinds, limits)
	}
}

func TestValidRules(t *testing.T) {
	for place, limit := range []int64{500, 500, 90, 100} {
		for _, n := range []int64{0, 1, 7, limit - 1, limit} {
			for _, r := range []impl.Rules{{}, rulesOf(500, 500, 90, 100), rulesOf(5, 10, 20, 30)} {
				*numbersOfRules(&r)[place] = n
				if !impl.ValidRules(r) {
					t.Errorf("%v are valid", r)
				}
			}
		}
		for _, n := range []int64{-1, limit + 1, math.MinInt64, math.MaxInt64} {
			for _, r := range []impl.Rules{{}, rulesOf(500, 500, 90, 100)} {
				*numbersOfRules(&r)[place] = n
				if impl.ValidRules(r) {
					t.Errorf("%v are not valid", r)
				}
			}
		}
	}
	for _, r := range badRules() {
		if impl.ValidRules(r) {
			t.Errorf("%v are not valid", r)
		}
	}
}

func checkPlacements(t *testing.T, list []impl.Placement, want bool) {
	t.Helper()
	if impl.ValidPlacements(list) != want {
		t.Errorf("ValidPlacements(%.300v) is %v", fmt.Sprint(list), !want)
	}
}

func TestValidPlacements(t *testing.T) {
	checkPlacements(t, nil, true)
	checkPlacements(t, []impl.Placement{}, true)
	for place, limit := range []int64{23, 15, most, most, 7} {
		for _, n := range []int64{0, 1, limit - 1, limit} {
			for _, p := range []impl.Placement{{}, put(23, 15, most, most, 7), put(1, 2, 30, 40, 5)} {
				*numbersOfPlacement(&p)[place] = n
				checkPlacements(t, []impl.Placement{p}, true)
			}
		}
		for _, n := range []int64{-1, limit + 1, math.MinInt64, math.MaxInt64} {
			for _, p := range []impl.Placement{{}, put(23, 15, most, most, 7)} {
				*numbersOfPlacement(&p)[place] = n
				checkPlacements(t, []impl.Placement{p}, false)
			}
		}
	}
	var all []impl.Placement
	for face := range int64(24) {
		checkPlacements(t, all, true)
		all = append(all, put(face, face*7%16, face, most-face, face%8))
	}
	checkPlacements(t, all, true)
	for k := range all {
		checkPlacements(t, all[k:], true)
		checkPlacements(t, slices.Delete(slices.Clone(all), k, k+1), true)
		checkPlacements(t, append(slices.Clone(all), all[k]), false)
		checkPlacements(t, slices.Insert(slices.Clone(all[:20]), k%20, all[k%20]), false)
	}
	// The Faces may have gaps, and equal placements but for the Faces are allowed.
	checkPlacements(t, []impl.Placement{put(0, 3, 5, 5, 1), put(7, 3, 5, 5, 1), put(23, 3, 5, 5, 1)}, true)
	forBadPlacements(func(reason string, list []impl.Placement) {
		if impl.ValidPlacements(list) {
			t.Errorf("%.300v is valid: %s", fmt.Sprint(list), reason)
		}
	})
}

func checkPlaced(t *testing.T, pic impl.Picture, p impl.Placement, want []impl.Point, wantCode int64) {
	t.Helper()
	if got, code := impl.PlacedPolygon(pic, p); !slices.Equal(got, want) || code != wantCode {
		t.Errorf("PlacedPolygon(%v, %v) is %v, %d, want %v, %d", pic, p, got, code, want, wantCode)
	}
}

func TestPlacedPolygon(t *testing.T) {
	// A hook without a symmetry, whose turned points are written down by hand.
	hooked := oaken(block10, "5,5 95,5 95,35 35,35 35,65 5,65")
	for turn, want := range []string{
		"0,0 90,0 90,30 30,30 30,60 0,60", "60,0 60,90 30,90 30,30 0,30 0,0", "90,60 0,60 0,30 60,30 60,0 90,0", "0,90 0,0 30,0 30,60 60,60 60,90",
		"90,0 90,60 60,60 60,30 0,30 0,0", "60,90 0,90 0,60 30,60 30,0 60,0", "0,60 0,0 30,0 30,30 90,30 90,60", "0,0 60,0 60,30 30,30 30,90 0,90",
	} {
		for _, at := range []impl.Point{pt(0, 0), pt(1, 0), pt(0, 1), pt(20, 30), pt(most-90, most-90), pt(0, most-90), pt(most-90, 0)} {
			checkPlaced(t, hooked, put(1, 5, at.X, at.Y, int64(turn)), moved(poly(want), at.X, at.Y), impl.OK)
		}
		// Just within the coordinates, and beyond them by one.
		wide, long := int64(90), int64(60)
		if turn%2 == 1 {
			wide, long = long, wide
		}
		checkPlaced(t, hooked, put(1, 0, most-wide, most-long, int64(turn)), moved(poly(want), most-wide, most-long), impl.OK)
		for _, at := range []impl.Point{pt(most-wide+1, 0), pt(0, most-long+1), pt(most-wide+1, most-long), pt(most-wide, most-long+1), pt(most, 0), pt(0, most), pt(most, most)} {
			checkPlaced(t, hooked, put(1, 0, at.X, at.Y, int64(turn)), nil, impl.ErrState)
		}
	}
	// The whole range: only 0, 0 is left.
	whole := oaken("0,0 20000,0 20000,20000 0,20000")
	for turn := range int64(8) {
		checkPlaced(t, whole, put(0, 15, 0, 0, turn), turnedPolygonAsTold(poly("0,0 20000,0 20000,20000 0,20000"), turn), impl.OK)
		checkPlaced(t, whole, put(0, 15, 1, 0, turn), nil, impl.ErrState)
		checkPlaced(t, whole, put(0, 15, 0, 1, turn), nil, impl.ErrState)
	}
	// A face that there is not comes before a polygon that is not valid.
	for face := int64(2); face < 24; face++ {
		for _, at := range []impl.Point{pt(0, 0), pt(most, most)} {
			checkPlaced(t, hooked, put(face, 0, at.X, at.Y, 0), nil, impl.ErrRange)
			checkPlaced(t, oaken(), put(face-2, 0, at.X, at.Y, 0), nil, impl.ErrRange)
		}
	}
}

// TestPlacedPolygonsOfAllPictures has every face in every turn.
func TestPlacedPolygonsOfAllPictures(t *testing.T) {
	ends := map[int64]int{}
	for seed, pic := range goodPictures() {
		next := dice(seed)
		for face := range int64(len(pic.Veneers) + 1) {
			for turn := range int64(8) {
				p := put(face%24, next(16), next(40), next(most+1), turn)
				if seed%3 == 0 {
					p.Y = next(300)
				}
				if face%24 == int64(len(pic.Veneers)) {
					checkPlaced(t, pic, p, nil, impl.ErrRange)
					ends[impl.ErrRange]++
				} else if want := placedAsTold(pic, p); areAllWithin(want, most) {
					checkPlaced(t, pic, p, want, impl.OK)
					ends[impl.OK]++
				} else {
					checkPlaced(t, pic, p, nil, impl.ErrState)
					ends[impl.ErrState]++
				}
			}
		}
	}
	if ends[impl.ErrRange] < 100 || ends[impl.OK] < 1000 || ends[impl.ErrState] < 100 {
		t.Errorf("the ends are %v", ends)
	}
}

func TestPlacedPolygonOfInvalidArguments(t *testing.T) {
	for _, p := range badPlacements() {
		checkPlaced(t, blocks(2), p, nil, impl.ErrInvalid)
		checkPlaced(t, blocks(0), p, nil, impl.ErrInvalid)
		checkPlaced(t, impl.Picture{}, p, nil, impl.ErrInvalid)
	}
	forBadPictures(func(reason string, pic impl.Picture) {
		for _, p := range []impl.Placement{put(0, 0, 0, 0, 0), put(23, 0, most, most, 0)} {
			if got, code := impl.PlacedPolygon(pic, p); len(got) != 0 || code != impl.ErrInvalid {
				t.Errorf("%s: PlacedPolygon is %v, %d", reason, got, code)
			}
		}
	})
}

func checkUsed(t *testing.T, list []impl.Placement, want []int64, wantCode int64) {
	t.Helper()
	if got, code := impl.UsedLeaves(list); !slices.Equal(got, want) || code != wantCode {
		t.Errorf("UsedLeaves(%.300v) is %v, %d, want %v, %d", fmt.Sprint(list), got, code, want, wantCode)
	}
}

// onLeaves are placements with these Leaves.
func onLeaves(leaves ...int64) []impl.Placement {
	var list []impl.Placement
	for face, leaf := range leaves {
		list = append(list, put(int64(face), leaf, 0, 0, 0))
	}
	return list
}

func TestUsedLeaves(t *testing.T) {
	for _, c := range [][2][]int64{
		{nil, nil}, {{0}, {0}}, {{15}, {15}}, {{0, 1}, {0, 1}}, {{1, 0}, {0, 1}}, {{3, 3}, {3}}, {{3, 3, 3, 3}, {3}}, {{5, 2, 5}, {2, 5}}, {{2, 5, 2}, {2, 5}}, {{9, 4, 7, 4, 9, 0}, {0, 4, 7, 9}}, {{15, 14, 13, 12, 11, 10, 9, 8, 7, 6, 5, 4, 3, 2, 1, 0, 15, 14, 13, 12, 11, 10, 9, 8}, {0, 1, 2, 3, 4, 5, 6, 7, 8, 9, 10, 11, 12, 13, 14, 15}}, {{10, 2, 1, 11}, {1, 2, 10, 11}},
	} {
		checkUsed(t, onLeaves(c[0]...), c[1], impl.OK)
	}
	checkUsed(t, []impl.Placement{}, nil, impl.OK)
	for seed := range 200 {
		next := dice(seed)
		var list []impl.Placement
		var isUsed [16]bool
		for face := range int64(24) {
			if leaf := next(16); next(3) > 0 {
				list = append(list, put(face, leaf, next(most), next(most), next(8)))
				isUsed[leaf] = true
			}
		}
		var want []int64
		for leaf, used := range isUsed {
			if used {
				want = append(want, int64(leaf))
			}
		}
		checkUsed(t, list, want, impl.OK)
	}
	forBadPlacements(func(_ string, list []impl.Placement) { checkUsed(t, list, nil, impl.ErrInvalid) })
}

func checkWaste(t *testing.T, pic impl.Picture, leaves []impl.Leaf, list []impl.Placement, want, wantCode int64) {
	t.Helper()
	if got, code := impl.WasteOf(pic, leaves, list); got != want || code != wantCode {
		t.Errorf("WasteOf(%v, %v, %v) is %d, %d, want %d, %d", pic, leaves, list, got, code, want, wantCode)
	}
}

func TestWasteOf(t *testing.T) {
	// Faces with the areas 100, 50 and 3600, and leaves with the areas 1000, 3000 and 10000.
	pic := oaken(block10, "0,0 10,0 0,10", "0,0 90,0 90,30 30,30 30,60 0,60")
	leaves := oakLeaves(50, 20, 30, 100, 100, 100)
	for _, c := range []struct {
		list []impl.Placement
		want int64
	}{
		{nil, 0}, {onLeaves(0), 2000 - 200}, {onLeaves(2), 20000 - 200}, {onLeaves(0, 0), 2000 - 300}, {onLeaves(0, 1), 8000 - 300}, {onLeaves(1, 0), 8000 - 300}, {onLeaves(2, 2, 2), 20000 - 300 - 7200}, {onLeaves(0, 1, 2), 28000 - 300 - 7200}, {onLeaves(1, 2, 1), 26000 - 300 - 7200}, {onLeaves(2, 1, 2), 26000 - 300 - 7200},
		// Faces without a place do not count, and it does not matter where on the leaf the others are.
		{onLeaves(0, 0, 2)[2:], 20000 - 7200}, {onLeaves(0, 2, 2)[1:], 20000 - 100 - 7200}, {[]impl.Placement{put(0, 1, most, most, 5), put(2, 1, 0, most, 7)}, 6000 - 200 - 7200}, {onLeaves(0, 0, 0), 2000 - 300 - 7200}, {onLeaves(1, 0, 0), 8000 - 300 - 7200},
	} {
		checkWaste(t, pic, leaves, c.list, c.want, impl.OK)
	}
	checkWaste(t, pic, nil, nil, 0, impl.OK)
	checkWaste(t, blocks(0), leaves, nil, 0, impl.OK)
	// Defects belong to the area of a leaf.
	checkWaste(t, pic, []impl.Leaf{leafOf(100, 100, box(0, 0, 100, 100))}, onLeaves(0), 20000-200, impl.OK)
	// The greatest and the least sums.
	var large []int64
	for range 16 {
		large = append(large, most, most)
	}
	checkWaste(t, blocks(16), oakLeaves(large...), onLeaves(0, 1, 2, 3, 4, 5, 6, 7, 8, 9, 10, 11, 12, 13, 14, 15), 16*(2*most*most-200), impl.OK)
	checkWaste(t, painted(crowd(24), "oak 40 0"), oakLeaves(10, 10), onLeaves(make([]int64, 24)...), 200-24*2*most*most, impl.OK)
	checkWaste(t, painted(crowd(1), "oak 40 0"), oakLeaves(most, most), onLeaves(0), 0, impl.OK)
}

func TestWasteOfRefuses(t *testing.T) {
	pic, leaves := blocks(3), oakLeaves(50, 20, 30, 100)
	for _, list := range [][]impl.Placement{
		onLeaves(2), onLeaves(0, 2), onLeaves(2, 0), onLeaves(0, 1, 15), onLeaves(0, 0, 0, 0), {put(3, 0, 0, 0, 0)}, {put(23, 0, 0, 0, 0)}, {put(0, 0, 0, 0, 0), put(3, 1, 0, 0, 0)}, {put(3, 2, 0, 0, 0)}, {put(0, 0, 0, 0, 0), put(1, 2, 0, 0, 0), put(2, 0, 0, 0, 0)},
	} {
		checkWaste(t, pic, leaves, list, 0, impl.ErrRange)
		checkWaste(t, pic, nil, list, 0, impl.ErrRange)
		checkWaste(t, blocks(0), leaves, list, 0, impl.ErrRange)
	}
	forBadPlacements(func(_ string, list []impl.Placement) {
		if len(list) < 100 {
			checkWaste(t, pic, leaves, list, 0, impl.ErrInvalid)
			checkWaste(t, blocks(0), nil, list, 0, impl.ErrInvalid)
		}
	})
	for _, list := range [][]impl.Placement{nil, onLeaves(0), onLeaves(15), {put(23, 0, 0, 0, 0)}} {
		forBadLists(func(reason string, bad []impl.Leaf) {
			if waste, code := impl.WasteOf(pic, bad, list); waste != 0 || code != impl.ErrInvalid {
				t.Errorf("%s: WasteOf is %d, %d", reason, waste, code)
			}
		})
		forBadPictures(func(reason string, bad impl.Picture) {
			if waste, code := impl.WasteOf(bad, leaves, list); waste != 0 || code != impl.ErrInvalid {
				t.Errorf("%s: WasteOf is %d, %d", reason, waste, code)
			}
		})
	}
}

func checkPlacementText(t *testing.T, p impl.Placement, want string) {
	t.Helper()
	if got := impl.PlacementText(p); got != want {
		t.Errorf("PlacementText(%v) is %q, want %q", p, got, want)
	}
}

func TestPlacementText(t *testing.T) {
	for text, p := range map[string]impl.Placement{
		"1,0,20,30,0": put(1, 0, 20, 30, 0), "0,0,0,0,0": {}, "23,15,20000,20000,7": put(23, 15, most, most, 7), "10,9,8,7,6": put(10, 9, 8, 7, 6), "0,1,2,3,4": put(0, 1, 2, 3, 4),
	} {
		checkPlacementText(t, p, text)
		if got, ok := impl.ReadPlacement(text); got != p || !ok {
			t.Errorf("ReadPlacement(%q) is %v, %v", text, got, ok)
		}
	}
	for _, p := range badPlacements() {
		checkPlacementText(t, p, "")
		if got, ok := impl.ReadPlacement(writtenPlacement(p)); ok || got != (impl.Placement{}) {
			t.Errorf("%q is read as %v, %v", writtenPlacement(p), got, ok)
		}
	}
}

// writtenPlacement is the text of a placement that may be invalid.
func writtenPlacement(p impl.Placement) string {
	return fmt.Sprintf("%d,%d,%d,%d,%d", p.Face, p.Leaf, p.X, p.Y, p.Turn)
}

func TestPlacementsAreReadBack(t *testing.T) {
	for face := range int64(24) {
		for leaf := range int64(16) {
			for turn := range int64(8) {
				for _, at := range []impl.Point{pt(0, 0), pt(face*leaf, turn), pt(most-face, 1000+leaf), pt(9, most)} {
					p := put(face, leaf, at.X, at.Y, turn)
					checkPlacementText(t, p, writtenPlacement(p))
					if got, ok := impl.ReadPlacement(writtenPlacement(p)); got != p || !ok {
						t.Fatalf("%v is read as %v, %v", p, got, ok)
					}
				}
			}
		}
	}
}

// readPlacementAsTold compares the text with those of the numbers in it.
func readPlacementAsTold(s string) (impl.Placement, bool) {
	var p impl.Placement
	n, _ := fmt.Sscanf(s, "%d,%d,%d,%d,%d", &p.Face, &p.Leaf, &p.X, &p.Y, &p.Turn)
	isValid := 0 <= p.Face && p.Face <= 23 && 0 <= p.Leaf && p.Leaf <= 15 && 0 <= p.X && p.X <= 20000 && 0 <= p.Y && p.Y <= 20000 && 0 <= p.Turn && p.Turn <= 7
	if n != 5 || !isValid || writtenPlacement(p) != s {
		return impl.Placement{}, false
	}
	return p, true
}

// checkReadPlacement compares with the words of the document, and reports whether s is read.
func checkReadPlacement(t *testing.T, s string) bool {
	t.Helper()
	got, ok := impl.ReadPlacement(s)
	if want, is := readPlacementAsTold(s); got != want || ok != is {
		t.Fatalf("ReadPlacement(%.200q) is %v, %v, want %v, %v", s, got, ok, want, is)
	}
	if ok && impl.PlacementText(got) != s {
		t.Fatalf("%q is read, but written %q", s, impl.PlacementText(got))
	}
	return ok
}

func TestReadPlacementRefuses(t *testing.T) {
	for _, s := range []string{
		// The texts of the given test.
		"", "-", "24,0,0,0,0", "0,16,0,0,0", "0,0,20001,0,0", "0,0,0,0,8", "0,0,0,0",
		// Another number of numbers, and something else between them.
		"0", "1", "1,0", "1,0,20", "1,0,20,30", "1,0,20,30,0,0", "1,0,20,30,0,1", "1,0,20,30,0,", ",1,0,20,30,0", "1,,0,20,30,0", "1,0,,30,0", "1,0,20,30,", ",0,20,30,0", ",,,,", "1 0 20 30 0", "1;0;20;30;0", "1,0 20,30,0", "1,0,20,30;0", "1,0,20,30 0", "1,0,20.30,0", "1/0/20/30/0", "1,0,20,300",
		// Signs, leading zeros, blanks and other forms.
		"+1,0,20,30,0", "1,+0,20,30,0", "1,-0,20,30,0", "-0,0,20,30,0", "1,0,20,30,-0", "1,0,20,30,+0", "-1,0,20,30,0", "1,-1,20,30,0", "1,0,-20,30,0", "1,0,20,-30,0", "1,0,20,30,-1", "01,0,20,30,0", "1,00,20,30,0", "1,0,020,30,0", "1,0,20,030,0", "1,0,20,30,00", " 1,0,20,30,0", "1,0,20,30,0 ", "1, 0,20,30,0", "1 ,0,20,30,0", "1,0,20,30, 0", "1,0,20,30,0\n", "\n1,0,20,30,0", "1,0,20,30,0\x00", "\x001,0,20,30,0", "1,0,2_0,30,0", "1,0,0x14,30,0", "1,0,2e1,30,0", "1,0,20,30,0.0", "1,0,20,30,x", "a,0,20,30,0", "1,0,20,30,\xd9\xa1",
		// Numbers that are too large.
		"0,0,0,20001,0", "18446744073709551617,0,20,30,0", "1,18446744073709551616,20,30,0", "1,0,18446744073709551636,30,0", "1,0,20,4294967326,0", "1,0,20,30,256", "1000000000001,0,20,30,0", "0,0,0,0,100000000000000000000",
	} {
		if checkReadPlacement(t, s) {
			t.Errorf("%q is read", s)
		}
	}
	for _, s := range append(append(oddTexts(), notDecimal...), strings.Repeat("1,0,20,30,0,", 10000), strings.Repeat("0,", 100000), strings.Repeat("0", 100000)) {
		for _, text := range []string{s, s + ",0,20,30,0", "1," + s + ",20,30,0", "1,0," + s + ",30,0", "1,0,20," + s + ",0", "1,0,20,30," + s, "1,0,20,30,0" + s, s + "1,0,20,30,0", "1,0,20,30,0," + s} {
			if got, ok := impl.ReadPlacement(text); ok && impl.PlacementText(got) != text || !ok && got != (impl.Placement{}) {
				t.Errorf("%.100q is read as %v, %v", text, got, ok)
			}
		}
	}
}

// TestReadPlacementsAreWrittenBack tries all prefixes and ends, and all texts with one byte less, changed or more.
func TestReadPlacementsAreWrittenBack(t *testing.T) {
	every := make([]byte, 256)
	for k := range every {
		every[k] = byte(k)
	}
	read := 0
	for _, text := range []string{"1,0,20,30,0", "0,0,0,0,0", "23,15,20000,20000,7", "9,9,19999,9,5"} {
		forNearTexts(text, every, func(s string) {
			if checkReadPlacement(t, s) && s != text {
				read++
			}
		})
		forNearTexts(text, []byte("0129,-+ "), func(near string) {
			forNearTexts(near, []byte("02,-"), func(s string) { checkReadPlacement(t, s) })
		})
	}
	if read < 150 {
		t.Errorf("only %d other texts are read", read)
	}
}
