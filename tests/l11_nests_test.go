package tests

import (
	"fmt"
	"slices"
	"testing"

	"loop.example/g00956/impl"
)

func fault(kind, face, other int64) impl.NestFault {
	return impl.NestFault{Kind: kind, Face: face, Other: other}
}

// TestNestFaults has squares with the side 10 on leaves of 100 to 80, with a margin of 10 and a spacing of 5.
func TestNestFaults(t *testing.T) {
	pic, leaves, r := blocks(3), oakLeaves(100, 80, 100, 80), rulesOf(5, 10, 10, 5)
	pic.Veneers[1].Grain = 90
	leaves[1].Defects = []impl.Box{box(40, 40, 10, 10)}
	for _, c := range []struct {
		list []impl.Placement
		want []impl.NestFault
	}{
		{[]impl.Placement{put(0, 0, 10, 10, 0), put(1, 0, 25, 10, 1), put(2, 0, 40, 10, 2)}, nil}, {[]impl.Placement{put(0, 0, 10, 10, 0), put(1, 1, 10, 10, 1), put(2, 0, 80, 60, 2)}, nil},
		// Faces without a place, also between others, with the leaf 0 as Other.
		{nil, []impl.NestFault{fault(8, 0, 0), fault(8, 1, 0), fault(8, 2, 0)}}, {[]impl.Placement{put(1, 1, 10, 10, 1)}, []impl.NestFault{fault(8, 0, 0), fault(8, 2, 0)}}, {[]impl.Placement{put(0, 1, 10, 10, 0), put(2, 1, 60, 60, 0)}, []impl.NestFault{fault(8, 1, 0)}}, {[]impl.Placement{put(0, 0, 10, 10, 0), put(1, 0, 25, 10, 1)}, []impl.NestFault{fault(8, 2, 0)}}, {[]impl.Placement{put(1, 0, 10, 10, 1), put(2, 0, 25, 10, 0)}, []impl.NestFault{fault(8, 0, 0)}},
		// A leaf that there is not, at which nothing else of leaves counts.
		{[]impl.Placement{put(0, 2, 10, 10, 0), put(1, 0, 25, 10, 1), put(2, 0, 40, 10, 2)}, []impl.NestFault{fault(1, 0, 2)}}, {[]impl.Placement{put(0, 0, 10, 10, 0), put(1, 15, 0, 0, 0), put(2, 0, 40, 10, 2)}, []impl.NestFault{fault(1, 1, 15)}}, {[]impl.Placement{put(0, 5, 0, 0, 1), put(1, 6, most, most, 0), put(2, 7, 0, 0, 5)}, []impl.NestFault{fault(1, 0, 5), fault(1, 1, 6), fault(1, 2, 7)}},
		// A fault of the veneer, one of the leaf, and both, with the leaf as Other.
		{[]impl.Placement{put(0, 0, 10, 10, 0), put(1, 1, 10, 10, 0), put(2, 0, 40, 10, 2)}, []impl.NestFault{fault(4, 1, 1)}}, {[]impl.Placement{put(0, 1, 9, 10, 0), put(1, 0, 25, 10, 1), put(2, 0, 40, 10, 2)}, []impl.NestFault{fault(5, 0, 1)}}, {[]impl.Placement{put(0, 1, 31, 31, 0), put(1, 0, 25, 10, 1), put(2, 0, 40, 10, 2)}, []impl.NestFault{fault(6, 0, 1)}}, {[]impl.Placement{put(0, 1, 30, 40, 0), put(1, 0, 25, 10, 1), put(2, 1, 50, 50, 2)}, nil},
		{[]impl.Placement{put(0, 1, 31, 31, 1), put(1, 0, 25, 10, 1), put(2, 0, 40, 10, 2)}, []impl.NestFault{fault(4, 0, 1), fault(6, 0, 1)}}, {[]impl.Placement{put(0, 1, 10, 10, 0), put(1, 1, 50, 61, 2), put(2, 0, 81, 10, 3)}, []impl.NestFault{fault(4, 1, 1), fault(5, 1, 1), fault(4, 2, 0), fault(5, 2, 0)}},
		// Too near to an earlier one, and to several ones in the order of the list; behind all other faults.
		{[]impl.Placement{put(0, 0, 10, 10, 0), put(1, 0, 24, 10, 1), put(2, 0, 60, 10, 2)}, []impl.NestFault{fault(7, 1, 0)}}, {[]impl.Placement{put(0, 0, 40, 10, 0), put(1, 0, 60, 10, 1), put(2, 0, 50, 15, 2)}, []impl.NestFault{fault(7, 2, 0), fault(7, 2, 1)}}, {[]impl.Placement{put(0, 0, 60, 10, 0), put(1, 0, 40, 10, 1), put(2, 0, 50, 15, 2)}, []impl.NestFault{fault(7, 2, 0), fault(7, 2, 1)}}, {[]impl.Placement{put(0, 0, 10, 10, 0), put(1, 0, 30, 10, 1), put(2, 0, 44, 10, 2)}, []impl.NestFault{fault(7, 2, 1)}},
		{[]impl.Placement{put(0, 0, 20, 20, 0), put(1, 0, 20, 20, 1), put(2, 0, 20, 20, 2)}, []impl.NestFault{fault(7, 1, 0), fault(7, 2, 0), fault(7, 2, 1)}}, {[]impl.Placement{put(0, 0, 5, 5, 1), put(1, 0, 6, 6, 0), put(2, 0, 7, 7, 3)}, []impl.NestFault{fault(4, 0, 0), fault(5, 0, 0), fault(4, 1, 0), fault(5, 1, 0), fault(7, 1, 0), fault(4, 2, 0), fault(5, 2, 0), fault(7, 2, 0), fault(7, 2, 1)}}, {[]impl.Placement{put(0, 1, 41, 41, 1), put(2, 1, 42, 42, 1)}, []impl.NestFault{fault(4, 0, 1), fault(6, 0, 1), fault(8, 1, 0), fault(4, 2, 1), fault(6, 2, 1), fault(7, 2, 0)}},
		// On other leaves, nothing is too near; on the same leaf that there is not, it may be.
		{[]impl.Placement{put(0, 0, 20, 20, 0), put(1, 1, 20, 20, 1), put(2, 0, 60, 60, 2)}, nil}, {[]impl.Placement{put(0, 0, 20, 20, 0), put(1, 1, 20, 20, 1), put(2, 0, 20, 20, 2)}, []impl.NestFault{fault(7, 2, 0)}}, {[]impl.Placement{put(0, 4, 0, 0, 1), put(1, 4, 14, 0, 0), put(2, 4, 29, 0, 1)}, []impl.NestFault{fault(1, 0, 4), fault(1, 1, 4), fault(7, 1, 0), fault(1, 2, 4)}}, {[]impl.Placement{put(0, 4, 0, 0, 1), put(1, 5, 0, 0, 0), put(2, 4, 5, 5, 1)}, []impl.NestFault{fault(1, 0, 4), fault(1, 1, 5), fault(1, 2, 4), fault(7, 2, 0)}},
		// Beyond the coordinates that are valid.
		{[]impl.Placement{put(0, 0, most, most, 0), put(1, 0, most-14, most, 1), put(2, 0, most, most-15, 2)}, []impl.NestFault{fault(5, 0, 0), fault(5, 1, 0), fault(7, 1, 0), fault(5, 2, 0)}}, {[]impl.Placement{put(0, 9, most, most, 0), put(1, 9, most-14, most, 1), put(2, 9, most, most-15, 2)}, []impl.NestFault{fault(1, 0, 9), fault(1, 1, 9), fault(7, 1, 0), fault(1, 2, 9)}},
	} {
		checkFaults(t, pic, leaves, c.list, r, c.want...)
		if want := faultsAsTold(pic, leaves, c.list, r); !slices.Equal(want, c.want) {
			t.Errorf("%v has the faults %v, not %v", c.list, want, c.want)
		}
	}
	// Without leaves, each leaf is none; without faces, there are no faults.
	checkFaults(t, pic, nil, []impl.Placement{put(0, 0, 10, 10, 0), put(1, 0, 10, 10, 0), put(2, 0, 40, 10, 0)}, r, fault(1, 0, 0), fault(1, 1, 0), fault(7, 1, 0), fault(1, 2, 0))
	checkFaults(t, blocks(0), leaves, nil, r)
	checkFaults(t, blocks(0), nil, []impl.Placement{}, impl.Rules{})
}

// TestVeneersOfNests has the first fault of each veneer only.
func TestVeneersOfNests(t *testing.T) {
	pic := blocks(4)
	pic.Veneers = []impl.Veneer{veneer("ash", 20, 50), veneer("oak", 50, 50), veneer("oak", 45, 50), veneer("oak", 35, 10)}
	var list []impl.Placement
	for face := range int64(4) {
		list = append(list, put(face, 0, 20*face, 0, 0))
	}
	checkFaults(t, pic, oakLeaves(70, 10), list, rulesOf(10, 0, 10, 5), fault(2, 0, 0), fault(3, 1, 0), fault(4, 2, 0))
	checkFaults(t, pic, oakLeaves(69, 10), list, rulesOf(11, 0, 10, 4), fault(2, 0, 0), fault(3, 1, 0), fault(7, 1, 0), fault(3, 2, 0), fault(7, 2, 1), fault(3, 3, 0), fault(5, 3, 0), fault(7, 3, 2))
}

// TestNearPolygonsInNests has pairs of polygons of chapter 4, at their places and as far away as they may be.
func TestNearPolygonsInNests(t *testing.T) {
	for n, c := range slices.Concat(nearPairs, farPairs) {
		centre := int64(50)
		if n >= len(nearPairs) {
			centre = most / 2
		}
		for turn := range int64(8) {
			a, b := turnedAbout(poly(c.a), turn, centre), turnedAbout(poly(c.b), turn, centre)
			pic := painted(drawingOf(a, b), "oak 40 0")
			x, y := leastOf(a)
			otherX, otherY := leastOf(b)
			for _, away := range []impl.Point{pt(0, 0), pt(most-100, 0), pt(0, most-100), pt(most-100, most-100), pt(most-max(x, otherX), most-max(y, otherY))} {
				if n >= len(nearPairs) {
					away = pt(min(away.X, most-max(x, otherX)), min(away.Y, most-max(y, otherY)))
				}
				list := []impl.Placement{put(0, 3, x+away.X, y+away.Y, 0), put(1, 3, otherX+away.X, otherY+away.Y, 0)}
				for _, spacing := range []int64{0, 1, c.distance - 1, c.distance, c.distance + 1, 2, 500} {
					if spacing < 0 || spacing > 500 {
						continue
					}
					want := []impl.NestFault{fault(1, 0, 3), fault(1, 1, 3)}
					if !c.disjoint || c.distance < spacing {
						want = append(want, fault(7, 1, 0))
					}
					checkFaults(t, pic, nil, list, rulesOf(spacing, 0, 0, 0), want...)
				}
			}
		}
	}
}

// TestFarPolygonsInNests has polygons that cannot be moved to where both are valid.
func TestFarPolygonsInNests(t *testing.T) {
	for _, c := range []struct {
		a, b     string
		x, y     int64
		isApart  bool
		distance int64
	}{
		{"0,0 20000,0 20000,20000 0,20000", "0,0 20000,0 20000,20000 0,20000", most, 0, true, 0}, {"0,0 20000,0 20000,20000 0,20000", "0,0 20000,0 20000,20000 0,20000", most - 1, 0, false, 0}, {"0,0 20000,0 20000,20000 0,20000", "0,0 20000,0 20000,20000 0,20000", most, most, true, 0}, {"0,0 20000,0 20000,20000 0,20000", "0,0 20000,0 20000,20000 0,20000", most - 1, most - 1, false, 0}, {"0,0 20000,0 20000,20000 0,20000", "0,0 20000,0 20000,20000 0,20000", 0, most, true, 0}, {"0,0 20000,0 20000,20000 0,20000", "0,0 20000,0 20000,20000 0,20000", 0, 0, false, 0},
		{"0,0 19997,0 19997,20000 0,20000", "0,0 20000,0 20000,20000 0,20000", most, 0, true, 3}, {"0,0 19997,0 19997,19996 0,19996", "0,0 20000,0 20000,20000 0,20000", most, most, true, 5}, {"0,0 19990,0 19990,19990 0,19990", "0,0 20000,0 20000,20000 0,20000", most, most, true, 14}, {"0,0 20000,0 0,20000", "20000,0 20000,20000 0,20000", 0, 0, true, 0}, {"0,0 20000,0 0,20000", "20000,0 20000,20000 0,20000", 300, 300, true, 424}, {"0,0 20000,0 0,20000", "20000,0 20000,20000 0,20000", 300, 0, true, 212},
		// The one with the notch 100 wide holds the other one, whose foot is in it.
		{"0,0 20000,0 20000,20000 10100,20000 10100,1000 10000,1000 10000,20000 0,20000", "0,0 20,0 20,20000 0,20000", 10040, 1040, true, 40}, {"0,0 20000,0 20000,20000 10100,20000 10100,1000 10000,1000 10000,20000 0,20000", "0,0 20,0 20,20000 0,20000", 10070, 1040, true, 10}, {"0,0 20000,0 20000,20000 10100,20000 10100,1000 10000,1000 10000,20000 0,20000", "0,0 20,0 20,20000 0,20000", 10080, 1000, true, 0}, {"0,0 20000,0 20000,20000 10100,20000 10100,1000 10000,1000 10000,20000 0,20000", "0,0 20,0 20,20000 0,20000", 10081, 1500, false, 0}, {"0,0 20000,0 20000,20000 10100,20000 10100,1000 10000,1000 10000,20000 0,20000", "0,0 20,0 20,20000 0,20000", 10040, 999, false, 0},
	} {
		pic := oaken(c.a, c.b)
		for _, spacing := range []int64{0, 1, 2, c.distance, c.distance + 1, 500} {
			want := []impl.NestFault{fault(1, 0, 0), fault(1, 1, 0)}
			if !c.isApart || c.distance < spacing {
				want = append(want, fault(7, 1, 0))
			}
			checkFaults(t, pic, nil, []impl.Placement{put(0, 0, 0, 0, 0), put(1, 0, c.x, c.y, 0)}, rulesOf(spacing, 0, 0, 0), want...)
			// With both turned by a half turn, the places are exchanged.
			back := oaken(c.b, c.a)
			low, high, _ := impl.BoundsOf(poly(c.a))
			wide, long := high.X-low.X, high.Y-low.Y
			low, high, _ = impl.BoundsOf(poly(c.b))
			other := put(1, 0, high.X-low.X+c.x-wide, high.Y-low.Y+c.y-long, 2)
			if other.X >= 0 && other.Y >= 0 && other.X <= most && other.Y <= most {
				checkFaults(t, back, nil, []impl.Placement{put(0, 0, 0, 0, 2), other}, rulesOf(spacing, 0, 0, 0), want...)
			}
		}
	}
}

// TestSpacingOfTurnedFaces has a face beside a hook, which leaves room for it only in some turns.
func TestSpacingOfTurnedFaces(t *testing.T) {
	pic := oaken("5,5 95,5 95,35 35,35 35,65 5,65", block10)
	for turn := range int64(8) {
		for x := int64(0); x <= 90; x += 3 {
			for y := int64(0); y <= 90; y += 3 {
				list := []impl.Placement{put(0, 0, 0, 0, turn), put(1, 0, x, y, 7-turn)}
				r := rulesOf((x+y)%13, 0, 90, 100)
				checkFaults(t, pic, oakLeaves(100, 100), list, r, faultsAsTold(pic, oakLeaves(100, 100), list, r)...)
			}
		}
	}
}

func TestNestFaultsAreAsTold(t *testing.T) {
	kinds := map[int64]int{}
	for seed := range 2000 {
		c, next := smallNest(seed), dice(seed+5)
		var list []impl.Placement
		for face := range int64(len(c.pic.Veneers)) {
			p := put(face, next(int64(len(c.leaves)+1)), next(20), next(20), next(8))
			// Places have at most faults with others.
			if places := c.placesAsTold(int(face)); seed%2 == 0 && len(places) > 0 {
				p = places[next(int64(len(places)))]
			}
			if next(8) > 0 {
				list = append(list, p)
			}
		}
		want := faultsAsTold(c.pic, c.leaves, list, c.r)
		checkFaults(t, c.pic, c.leaves, list, c.r, want...)
		if len(want) == 0 {
			kinds[0]++
		}
		for _, f := range want {
			kinds[f.Kind]++
		}
	}
	for kind := range int64(9) {
		if kinds[kind] < 30 {
			t.Errorf("the kinds of faults are %v", kinds)
		}
	}
}

func checkNoFaults(t *testing.T, what string, pic impl.Picture, leaves []impl.Leaf, list []impl.Placement, r impl.Rules, want int64) {
	t.Helper()
	if faults, code := impl.NestFaults(pic, leaves, list, r); len(faults) != 0 || code != want {
		t.Errorf("%s: NestFaults of %.300v is %v, %d, want %d", what, fmt.Sprint(list), faults, code, want)
	}
	if impl.IsNesting(pic, leaves, list, r) {
		t.Errorf("%s: %.300v is no nesting", what, fmt.Sprint(list))
	}
}

func TestNestFaultsOfFacesThatThereAreNot(t *testing.T) {
	for n := range 4 {
		for face := int64(n); face < 24; face++ {
			for _, before := range []int{0, min(1, n), n} {
				list := append(onLeaves(make([]int64, before)...), put(face, 0, 0, 0, 0))
				checkNoFaults(t, "a face that there is not", blocks(n), oakLeaves(100, 100), list, anyWay, impl.ErrRange)
				checkNoFaults(t, "a face that there is not", blocks(n), nil, list, anyWay, impl.ErrRange)
			}
		}
	}
	list := []impl.Placement{put(0, 0, 0, 0, 0), put(1, 0, 10, 0, 0), put(2, 0, 20, 0, 0)}
	checkFaults(t, blocks(3), oakLeaves(30, 10), list, anyWay)
	checkNoFaults(t, "one face too many", blocks(2), oakLeaves(30, 10), list, anyWay, impl.ErrRange)
}

func TestNestFaultsOfInvalidArguments(t *testing.T) {
	pic, leaves, good := blocks(2), oakLeaves(100, 80), []impl.Placement{put(0, 0, 0, 0, 0), put(1, 0, 10, 0, 0)}
	checkFaults(t, pic, leaves, good, anyWay)
	for _, list := range [][]impl.Placement{good, nil, {put(23, 15, most, most, 7)}} {
		forBadPictures(func(reason string, bad impl.Picture) {
			checkNoFaults(t, reason, bad, leaves, list, anyWay, impl.ErrInvalid)
		})
		forBadLists(func(reason string, bad []impl.Leaf) {
			checkNoFaults(t, reason, pic, bad, list, anyWay, impl.ErrInvalid)
		})
		for _, bad := range badRules() {
			checkNoFaults(t, fmt.Sprint(bad), pic, leaves, list, bad, impl.ErrInvalid)
			checkNoFaults(t, fmt.Sprint(bad), blocks(0), nil, list, bad, impl.ErrInvalid)
		}
	}
	forBadPlacements(func(reason string, bad []impl.Placement) {
		checkNoFaults(t, reason, pic, leaves, bad, anyWay, impl.ErrInvalid)
		checkNoFaults(t, reason, blocks(0), nil, bad, anyWay, impl.ErrInvalid)
	})
}

// TestOneFaultOfEachKind spoils a nesting in one way each.
func TestOneFaultOfEachKind(t *testing.T) {
	pic, leaves, r := blocks(2), oakLeaves(100, 80, 100, 80), rulesOf(5, 5, 10, 5)
	leaves[0].Defects, leaves[1].Veneer = []impl.Box{box(50, 50, 10, 10)}, veneer("ash", 20, 0)
	good := []impl.Placement{put(0, 0, 5, 5, 0), put(1, 0, 20, 5, 0)}
	checkFaults(t, pic, leaves, good, r)
	shaded := repainted(pic, func(p *impl.Picture) { p.Veneers[1].Shade = 46 })
	for _, c := range []struct {
		pic  impl.Picture
		last impl.Placement
		kind int64
	}{
		{pic, put(1, 2, 20, 5, 0), impl.NfLeaf}, {pic, put(1, 1, 20, 5, 0), impl.NfSpecies}, {shaded, put(1, 0, 20, 5, 0), impl.NfShade}, {pic, put(1, 0, 20, 5, 1), impl.NfGrain}, {pic, put(1, 0, 20, 4, 0), impl.NfEdge}, {pic, put(1, 0, 55, 55, 0), impl.NfDefect}, {pic, put(1, 0, 19, 5, 0), impl.NfNear},
	} {
		other := c.last.Leaf
		if c.kind == impl.NfNear {
			other = 0
		}
		checkFaults(t, c.pic, leaves, []impl.Placement{good[0], c.last}, r, fault(c.kind, 1, other))
	}
	checkFaults(t, pic, leaves, good[:1], r, fault(impl.NfMissing, 1, 0))
	checkFaults(t, pic, leaves, good[1:], r, fault(impl.NfMissing, 0, 0))
	checkNoFaults(t, "a face that there is not", pic, leaves, append(good, put(2, 0, 80, 5, 0)), r, impl.ErrRange)
}
