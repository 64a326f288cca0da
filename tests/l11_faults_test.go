package tests

import (
	"fmt"
	"math"
	"slices"
	"testing"

	"loop.example/g00956/impl"
)

func checkVeneerFault(t *testing.T, v impl.Veneer, l impl.Leaf, turn int64, r impl.Rules, want, wantCode int64) {
	t.Helper()
	if got, code := impl.VeneerFault(v, l, turn, r); got != want || code != wantCode {
		t.Errorf("VeneerFault(%v, %v, %d, %v) is %d, %d, want %d, %d", v, l, turn, r, got, code, want, wantCode)
	}
}

// leafWith is a leaf with a veneer.
func leafWith(v impl.Veneer) impl.Leaf {
	return changedLeaf(leafOf(100, 100), func(l *impl.Leaf) { l.Veneer = v })
}

func TestVeneerFault(t *testing.T) {
	for _, c := range []struct {
		v, leaf           impl.Veneer
		turn, angle, most int64
		want              int64
	}{
		{veneer("oak", 40, 0), veneer("oak", 40, 0), 0, 0, 0, 0},
		// Each fault alone, each pair, and all three.
		{veneer("ash", 35, 0), veneer("oak", 35, 0), 0, 10, 5, impl.NfSpecies}, {veneer("oak", 46, 0), veneer("oak", 40, 0), 0, 10, 5, impl.NfShade}, {veneer("oak", 40, 11), veneer("oak", 40, 0), 0, 10, 5, impl.NfGrain},
		{veneer("ash", 20, 0), veneer("oak", 40, 0), 0, 10, 5, impl.NfSpecies}, {veneer("ash", 35, 50), veneer("oak", 35, 0), 0, 10, 5, impl.NfSpecies}, {veneer("oak", 46, 50), veneer("oak", 40, 0), 0, 10, 5, impl.NfShade}, {veneer("ash", 20, 50), veneer("oak", 40, 0), 0, 10, 5, impl.NfSpecies},
		// Shades that differ by just as much as allowed, and by one more, both ways.
		{veneer("oak", 45, 0), veneer("oak", 40, 0), 0, 10, 5, 0}, {veneer("oak", 40, 0), veneer("oak", 45, 0), 0, 10, 5, 0}, {veneer("oak", 40, 0), veneer("oak", 46, 0), 0, 10, 5, impl.NfShade}, {veneer("oak", 41, 0), veneer("oak", 40, 0), 0, 90, 0, impl.NfShade}, {veneer("oak", 40, 0), veneer("oak", 41, 0), 0, 90, 0, impl.NfShade},
		{veneer("oak", 25, 0), veneer("oak", 55, 0), 0, 90, 30, 0}, {veneer("oak", 25, 0), veneer("oak", 55, 0), 0, 90, 29, impl.NfShade}, {veneer("oak", 55, 0), veneer("oak", 25, 0), 0, 90, 29, impl.NfShade}, {veneer("oak", 55, 0), veneer("oak", 25, 0), 0, 90, 100, 0},
		// Angles of just as much as allowed, and of one more, also over the end of a half turn.
		{veneer("oak", 40, 10), veneer("oak", 40, 0), 0, 10, 0, 0}, {veneer("oak", 40, 0), veneer("oak", 40, 10), 0, 10, 0, 0}, {veneer("oak", 40, 0), veneer("oak", 40, 11), 0, 10, 0, impl.NfGrain}, {veneer("oak", 40, 170), veneer("oak", 40, 0), 0, 10, 0, 0}, {veneer("oak", 40, 169), veneer("oak", 40, 0), 0, 10, 0, impl.NfGrain}, {veneer("oak", 40, 0), veneer("oak", 40, 170), 0, 10, 0, 0}, {veneer("oak", 40, 0), veneer("oak", 40, 169), 0, 10, 0, impl.NfGrain},
		{veneer("oak", 40, 175), veneer("oak", 40, 5), 0, 10, 0, 0}, {veneer("oak", 40, 174), veneer("oak", 40, 5), 0, 10, 0, impl.NfGrain}, {veneer("oak", 40, 179), veneer("oak", 40, 0), 0, 0, 0, impl.NfGrain}, {veneer("oak", 40, 179), veneer("oak", 40, 0), 0, 1, 0, 0}, {veneer("oak", 40, 90), veneer("oak", 40, 0), 0, 90, 0, 0}, {veneer("oak", 40, 90), veneer("oak", 40, 0), 0, 89, 0, impl.NfGrain}, {veneer("oak", 40, 91), veneer("oak", 40, 0), 0, 89, 0, 0},
		// Leaves that are turned and mirrored: the grain 30 becomes 120, and then 150 or 60.
		{veneer("oak", 40, 30), veneer("oak", 40, 30), 0, 0, 0, 0}, {veneer("oak", 40, 120), veneer("oak", 40, 30), 1, 0, 0, 0}, {veneer("oak", 40, 30), veneer("oak", 40, 30), 2, 0, 0, 0}, {veneer("oak", 40, 120), veneer("oak", 40, 30), 3, 0, 0, 0}, {veneer("oak", 40, 150), veneer("oak", 40, 30), 4, 0, 0, 0}, {veneer("oak", 40, 60), veneer("oak", 40, 30), 5, 0, 0, 0}, {veneer("oak", 40, 150), veneer("oak", 40, 30), 6, 0, 0, 0}, {veneer("oak", 40, 60), veneer("oak", 40, 30), 7, 0, 0, 0},
		{veneer("oak", 40, 30), veneer("oak", 40, 30), 1, 89, 0, impl.NfGrain}, {veneer("oak", 40, 30), veneer("oak", 40, 30), 4, 59, 0, impl.NfGrain}, {veneer("oak", 40, 30), veneer("oak", 40, 30), 4, 60, 0, 0}, {veneer("oak", 40, 30), veneer("oak", 40, 30), 5, 29, 0, impl.NfGrain}, {veneer("oak", 40, 30), veneer("oak", 40, 30), 7, 30, 0, 0}, {veneer("oak", 40, 0), veneer("oak", 40, 0), 4, 0, 0, 0}, {veneer("oak", 40, 90), veneer("oak", 40, 0), 7, 0, 0, 0}, {veneer("oak", 40, 0), veneer("oak", 40, 90), 5, 0, 0, 0},
	} {
		r := rulesOf(500, 500, c.angle, c.most)
		checkVeneerFault(t, c.v, leafWith(c.leaf), c.turn, r, c.want, impl.OK)
		// Faces may be turned instead of leaves, but for the species.
		checkVeneerFault(t, c.leaf, leafWith(c.v), c.turn, r, c.want, impl.OK)
	}
}

func TestTurnsOfVeneerFault(t *testing.T) {
	for _, turn := range []int64{-1, 8, 9, -8, 256, 1 << 32, math.MinInt64, math.MaxInt64} {
		for _, v := range []impl.Veneer{veneer("oak", 40, 0), veneer("ash", 20, 50), veneer("oak", 55, 0)} {
			checkVeneerFault(t, v, leafWith(veneer("oak", 40, 0)), turn, rulesOf(0, 0, 0, 0), 0, impl.ErrRange)
			checkVeneerFault(t, impl.Veneer{}, leafWith(veneer("oak", 40, 0)), turn, rulesOf(0, 0, 0, 0), 0, impl.ErrInvalid)
			checkVeneerFault(t, v, impl.Leaf{}, turn, rulesOf(0, 0, 0, 0), 0, impl.ErrInvalid)
			checkVeneerFault(t, v, leafWith(v), turn, rulesOf(0, 0, 0, -1), 0, impl.ErrInvalid)
		}
	}
	checkVeneerFault(t, veneer("oak", 40, 90), leafWith(veneer("oak", 40, 0)), 7, rulesOf(0, 0, 0, 0), 0, impl.OK)
}

// TestVeneerFaultsOfAllGrains has all pairs of directions and all turns, with the angle that is just enough and with one less.
func TestVeneerFaultsOfAllGrains(t *testing.T) {
	face, l := veneer("oak", 40, 0), leafWith(veneer("oak", 40, 0))
	for face.Grain = range int64(180) {
		for l.Veneer.Grain = (face.Grain * 7) % 11; l.Veneer.Grain < 180; l.Veneer.Grain += 11 {
			for turn := range int64(8) {
				angle := int64(0)
				for veneerFaultAsTold(face, l, turn, rulesOf(0, 0, angle, 0)) != 0 {
					angle++
				}
				checkVeneerFault(t, face, l, turn, rulesOf(0, 0, angle, 0), 0, impl.OK)
				if angle > 0 {
					checkVeneerFault(t, face, l, turn, rulesOf(0, 0, angle-1, 0), impl.NfGrain, impl.OK)
				}
			}
		}
	}
}

func TestVeneerFaultsAreAsTold(t *testing.T) {
	kinds := map[int64]int{}
	good := goodVeneers()
	for i, v := range good {
		for k, w := range good {
			if (i+k)%7 > 0 && v.Species != w.Species {
				continue
			}
			turn, r := int64((i*3+k)%8), rulesOf(0, 0, int64(i*k%91), int64((i+k)%23))
			want := veneerFaultAsTold(v, leafWith(w), turn, r)
			checkVeneerFault(t, v, leafWith(w), turn, r, want, impl.OK)
			kinds[want]++
		}
	}
	if kinds[0] < 500 || kinds[2] < 500 || kinds[3] < 500 || kinds[4] < 500 {
		t.Errorf("the faults are %v", kinds)
	}
}

func TestVeneerFaultOfInvalidArguments(t *testing.T) {
	v, l, r := veneer("oak", 40, 0), leafOf(10, 10), anyWay
	for _, turn := range []int64{0, 7, 8, -1} {
		for _, bad := range badVeneers() {
			checkVeneerFault(t, bad, l, turn, r, 0, impl.ErrInvalid)
		}
		for _, bad := range badRules() {
			checkVeneerFault(t, v, l, turn, bad, 0, impl.ErrInvalid)
		}
		forBadLeaves(func(reason string, bad impl.Leaf) {
			if got, code := impl.VeneerFault(v, bad, turn, r); got != 0 || code != impl.ErrInvalid {
				t.Errorf("%s: VeneerFault is %d, %d", reason, got, code)
			}
		})
	}
}

func checkLeafFault(t *testing.T, p []impl.Point, l impl.Leaf, r impl.Rules, want, wantCode int64) {
	t.Helper()
	if got, code := impl.LeafFault(p, l, r); got != want || code != wantCode {
		t.Errorf("LeafFault(%.300v, %v, %v) is %d, %d, want %d, %d", fmt.Sprint(p), l, r, got, code, want, wantCode)
	}
}

// TestEdgesOfLeaves has polygons that touch each of the four lines at the margin, and those that are beyond them by one.
func TestEdgesOfLeaves(t *testing.T) {
	l := leafOf(100, 80)
	for _, c := range []struct {
		p            string
		margin, want int64
	}{
		{"10,10 90,10 90,70 10,70", 10, 0}, {"10,10 90,10 90,70 10,70", 11, impl.NfEdge}, {"10,10 90,10 90,70 10,70", 0, 0}, {"10,10 90,10 90,70 10,70", 500, impl.NfEdge}, {"0,0 100,0 100,80 0,80", 0, 0}, {"0,0 100,0 100,80 0,80", 1, impl.NfEdge},
		{"10,20 50,20 50,50 10,50", 10, 0}, {"9,20 50,20 50,50 9,50", 10, impl.NfEdge}, {"20,10 50,10 50,50 20,50", 10, 0}, {"20,9 50,9 50,50 20,50", 10, impl.NfEdge}, {"20,20 90,20 90,50 20,50", 10, 0}, {"20,20 91,20 91,50 20,50", 10, impl.NfEdge}, {"20,20 50,20 50,70 20,70", 10, 0}, {"20,20 50,20 50,71 20,71", 10, impl.NfEdge},
		// Only one corner is there, the first, the last or another one.
		{"10,40 50,20 50,60", 10, 0}, {"9,40 50,20 50,60", 10, impl.NfEdge}, {"50,60 9,40 50,20", 10, impl.NfEdge}, {"50,20 50,60 9,40", 10, impl.NfEdge}, {"50,10 60,40 40,40", 10, 0}, {"50,9 60,40 40,40", 10, impl.NfEdge}, {"90,40 40,60 40,20", 10, 0}, {"91,40 40,60 40,20", 10, impl.NfEdge}, {"50,70 40,40 60,40", 10, 0}, {"50,71 40,40 60,40", 10, impl.NfEdge}, {"40,40 60,40 50,71", 10, impl.NfEdge},
		{"0,40 50,20 50,60", 0, 0}, {"100,40 40,60 40,20", 0, 0}, {"101,40 40,60 40,20", 0, impl.NfEdge}, {"50,80 40,40 60,40", 0, 0}, {"50,81 40,40 60,40", 0, impl.NfEdge}, {"20000,40 40,60 40,20", 0, impl.NfEdge}, {"50,20000 40,40 60,40", 0, impl.NfEdge},
		// Two margins that leave just a strip, and more than the leaf has.
		{"40,40 60,39 60,41", 39, 0}, {"40,40 60,40 60,41", 40, impl.NfEdge}, {"45,40 55,39 50,41", 40, impl.NfEdge}, {"50,40 51,40 50,41", 50, impl.NfEdge}, {"50,40 51,40 50,41", 60, impl.NfEdge}, {"50,40 51,40 50,41", 100, impl.NfEdge},
	} {
		checkLeafFault(t, poly(c.p), l, rulesOf(500, c.margin, 0, 0), c.want, impl.OK)
	}
	// The width goes along X, and the length along Y.
	checkLeafFault(t, poly("0,0 30,0 30,20 0,20"), leafOf(30, 20), anyWay, 0, impl.OK)
	checkLeafFault(t, poly("0,0 30,0 30,20 0,20"), leafOf(20, 30), anyWay, impl.NfEdge, impl.OK)
	checkLeafFault(t, poly("0,0 20000,0 20000,20000 0,20000"), leafOf(most, most), anyWay, 0, impl.OK)
	checkLeafFault(t, poly("0,0 20000,0 20000,20000 0,20000"), leafOf(most-1, most), anyWay, impl.NfEdge, impl.OK)
	checkLeafFault(t, poly("0,0 20000,0 20000,20000 0,20000"), leafOf(most, most-1), anyWay, impl.NfEdge, impl.OK)
	checkLeafFault(t, poly("500,500 19500,500 19500,19500 500,19500"), leafOf(most, most), rulesOf(0, 500, 0, 0), 0, impl.OK)
}

// TestDefectsOfLeaves has defects that touch a polygon, and those that have an inner point in common with it.
func TestDefectsOfLeaves(t *testing.T) {
	const square, kite = "20,20 60,20 60,60 20,60", "40,10 70,40 40,70 10,40"
	for _, c := range []struct {
		p    string
		d    impl.Box
		want int64
	}{
		// At a corner, at an edge from both sides, at a point of an edge, and next to it.
		{square, box(60, 60, 10, 10), 0}, {square, box(10, 10, 10, 10), 0}, {square, box(60, 10, 10, 10), 0}, {square, box(10, 60, 10, 10), 0}, {square, box(60, 20, 10, 40), 0}, {square, box(10, 30, 10, 5), 0}, {square, box(20, 60, 40, 5), 0}, {square, box(30, 10, 5, 10), 0}, {square, box(0, 0, 20, 80), 0}, {square, box(61, 20, 10, 40), 0}, {square, box(61, 61, 1, 1), 0},
		{square, box(59, 59, 10, 10), impl.NfDefect}, {square, box(10, 10, 11, 11), impl.NfDefect}, {square, box(59, 10, 10, 11), impl.NfDefect}, {square, box(10, 59, 11, 10), impl.NfDefect}, {square, box(59, 30, 10, 5), impl.NfDefect}, {square, box(0, 0, 21, 80), impl.NfDefect}, {square, box(20, 59, 40, 5), impl.NfDefect}, {square, box(10, 10, 50, 11), impl.NfDefect},
		// A slanted edge, whose box meets the defect.
		{kite, box(50, 50, 20, 20), impl.NfDefect}, {kite, box(55, 55, 10, 10), 0}, {kite, box(54, 55, 10, 10), impl.NfDefect}, {kite, box(56, 55, 10, 10), 0}, {kite, box(10, 10, 15, 15), 0}, {kite, box(10, 10, 16, 15), impl.NfDefect}, {kite, box(70, 30, 10, 20), 0}, {kite, box(69, 30, 10, 20), impl.NfDefect}, {kite, box(30, 0, 20, 10), 0}, {kite, box(55, 10, 20, 15), 0}, {kite, box(10, 55, 15, 20), 0},
		// One lies wholly within the other, with edges in common or without.
		{square, box(30, 30, 10, 10), impl.NfDefect}, {square, box(39, 39, 1, 1), impl.NfDefect}, {square, box(20, 20, 1, 1), impl.NfDefect}, {square, box(20, 30, 10, 10), impl.NfDefect}, {square, box(20, 20, 40, 40), impl.NfDefect}, {square, box(0, 0, 100, 80), impl.NfDefect}, {square, box(20, 0, 40, 80), impl.NfDefect}, {square, box(20, 20, 80, 60), impl.NfDefect}, {kite, box(25, 25, 30, 30), impl.NfDefect}, {kite, box(10, 10, 60, 60), impl.NfDefect}, {kite, box(0, 0, 100, 80), impl.NfDefect}, {kite, box(40, 40, 1, 1), impl.NfDefect},
		// Across it.
		{square, box(0, 30, 100, 10), impl.NfDefect}, {square, box(30, 0, 10, 80), impl.NfDefect}, {kite, box(0, 39, 100, 1), impl.NfDefect}, {kite, box(39, 0, 1, 80), impl.NfDefect},
		// In a notch.
		{"10,10 40,10 40,40 30,40 30,20 20,20 20,40 10,40", box(20, 20, 10, 20), 0}, {"10,10 40,10 40,40 30,40 30,20 20,20 20,40 10,40", box(20, 19, 10, 20), impl.NfDefect}, {"10,10 40,10 40,40 30,40 30,20 20,20 20,40 10,40", box(21, 20, 10, 60), impl.NfDefect}, {"10,10 40,10 40,40 30,40 30,20 20,20 20,40 10,40", box(24, 30, 2, 2), 0},
	} {
		for start := range poly(c.p) {
			p := startAt(poly(c.p), start)
			checkLeafFault(t, p, leafOf(100, 80, c.d), anyWay, c.want, impl.OK)
			// The defect may be any one of several, and the edge comes first.
			checkLeafFault(t, p, leafOf(100, 80, box(90, 70, 10, 10), box(0, 0, 5, 5), c.d, box(90, 0, 1, 1)), rulesOf(500, 10, 0, 0), c.want, impl.OK)
			checkLeafFault(t, p, leafOf(100, 80, c.d), rulesOf(0, 21, 90, 100), impl.NfEdge, impl.OK)
		}
	}
	// A defect beside a polygon at the margin, and one within the margin.
	checkLeafFault(t, poly("5,5 25,5 25,75 5,75"), leafOf(100, 80, box(25, 5, 5, 70), box(0, 0, 5, 80)), rulesOf(0, 5, 0, 0), 0, impl.OK)
	checkLeafFault(t, poly("5,5 25,5 25,75 5,75"), leafOf(100, 80, box(25, 5, 5, 70), box(0, 0, 6, 80)), rulesOf(0, 5, 0, 0), impl.NfDefect, impl.OK)
	checkLeafFault(t, poly("5,5 25,5 25,75 5,75"), leafOf(100, 80, box(0, 0, 100, 80)), rulesOf(0, 6, 0, 0), impl.NfEdge, impl.OK)
	checkLeafFault(t, poly("0,0 20000,0 20000,20000 0,20000"), leafOf(most, most, box(most-1, most-1, 1, 1)), anyWay, impl.NfDefect, impl.OK)
	checkLeafFault(t, poly("0,0 20000,0 0,20000"), leafOf(most, most, box(most-1, most-1, 1, 1), box(most/2, most/2, 1, 1)), anyWay, 0, impl.OK)
	checkLeafFault(t, poly("0,0 20000,0 0,20000"), leafOf(most, most, box(most/2-1, most/2+1, 1, 1)), anyWay, 0, impl.OK)
	checkLeafFault(t, poly("0,0 20000,0 0,20000"), leafOf(most, most, box(most/2-1, most/2, 1, 1)), anyWay, impl.NfDefect, impl.OK)
}

func TestLeafFaultsAreAsTold(t *testing.T) {
	kinds := map[int64]int{}
	for seed := range 3000 {
		next := dice(seed)
		all := gridPolygons()
		p, scale := slices.Clone(all[next(int64(len(all)))].points), 1+next(5)
		for k, corner := range p {
			p[k] = pt(corner.X*scale, corner.Y*scale)
		}
		p = moved(p, next(8), next(8))
		l, r := smallLeaf(seed), rulesOf(next(9), next(2)*next(4), 0, 0)
		want := leafFaultAsTold(p, l, r)
		checkLeafFault(t, p, l, r, want, impl.OK)
		kinds[want]++
	}
	if kinds[0] < 200 || kinds[5] < 500 || kinds[6] < 500 {
		t.Errorf("the faults are %v", kinds)
	}
}

func TestLeafFaultOfInvalidArguments(t *testing.T) {
	good, l := poly("0,0 9,0 9,9"), leafOf(10, 10, box(0, 0, 10, 10))
	forBadPolygons(func(_ string, p []impl.Point) {
		checkLeafFault(t, p, l, anyWay, 0, impl.ErrInvalid)
		checkLeafFault(t, p, leafOf(most, most), rulesOf(0, 500, 0, 0), 0, impl.ErrInvalid)
	})
	forBadLeaves(func(reason string, bad impl.Leaf) {
		if got, code := impl.LeafFault(good, bad, anyWay); got != 0 || code != impl.ErrInvalid {
			t.Errorf("%s: LeafFault is %d, %d", reason, got, code)
		}
	})
	for _, bad := range badRules() {
		checkLeafFault(t, good, l, bad, 0, impl.ErrInvalid)
		checkLeafFault(t, good, leafOf(most, most), bad, 0, impl.ErrInvalid)
	}
}
