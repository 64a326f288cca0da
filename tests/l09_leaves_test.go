package tests

import (
	"fmt"
	"math"
	"slices"
	"testing"

	"loop.example/g00956/impl"
)

func TestLimitsOfLeaves(t *testing.T) {
	if limits := []int64{impl.MaxLeaves, impl.MaxDefects, impl.MinLeaf, impl.MaxNumber}; !slices.Equal(limits, []int64{16, 6, 10, 999}) {
		t.Errorf("limits %v", limits)
	}
}

func TestValidLeaf(t *testing.T) {
	for _, l := range goodLeaves() {
		if !impl.ValidLeaf(l) || !leafAsTold(l) {
			t.Errorf("%v is valid", l)
		}
	}
	base := leafOf(50, 40, box(5, 5, 10, 10))
	for reason, change := range map[string]func(l *impl.Leaf){
		"short names": func(l *impl.Leaf) { l.Id, l.Flitch = "z", "z" }, "long names": func(l *impl.Leaf) { l.Id, l.Flitch = "abcdefghij", "z123456789" }, "equal names": func(l *impl.Leaf) { l.Flitch = l.Id },
		"Number 0": func(l *impl.Leaf) { l.Number = 0 }, "Number 1": func(l *impl.Leaf) { l.Number = 1 }, "Number 999": func(l *impl.Leaf) { l.Number = 999 },
		"least Width": func(l *impl.Leaf) { l.Width, l.Defects = 10, nil }, "greatest Width": func(l *impl.Leaf) { l.Width = 20000 }, "least Length": func(l *impl.Leaf) { l.Length, l.Defects = 10, nil }, "greatest Length": func(l *impl.Leaf) { l.Length = 20000 },
		"nil Defects": func(l *impl.Leaf) { l.Defects = nil }, "no Defects": func(l *impl.Leaf) { l.Defects = []impl.Box{} }, "six defects": func(l *impl.Leaf) { l.Defects = slices.Repeat(l.Defects, 6) },
		"a defect to the right edge": func(l *impl.Leaf) { l.Defects[0] = box(49, 0, 1, 1) }, "a defect to the high edge": func(l *impl.Leaf) { l.Defects[0] = box(0, 39, 1, 1) }, "a defect to both edges": func(l *impl.Leaf) { l.Defects[0] = box(20, 30, 30, 10) },
		"a defect that covers all": func(l *impl.Leaf) { l.Defects[0] = box(0, 0, 50, 40) }, "the last defect to the edge": func(l *impl.Leaf) { l.Defects = append(l.Defects, box(20, 30, 30, 10)) },
	} {
		if l := changedLeaf(base, change); !impl.ValidLeaf(l) || !leafAsTold(l) {
			t.Errorf("%v is valid: %s", l, reason)
		}
	}
	for _, v := range goodVeneers() {
		if l := changedLeaf(base, func(l *impl.Leaf) { l.Veneer = v }); !impl.ValidLeaf(l) {
			t.Errorf("%v is valid", l)
		}
	}
	forBadLeaves(func(reason string, l impl.Leaf) {
		if impl.ValidLeaf(l) || leafAsTold(l) {
			t.Errorf("%.300v is valid: %s", fmt.Sprint(l), reason)
		}
	})
}

// TestValidLeafWithEveryDefect tries boxes at all sides of a small leaf, and with far numbers.
func TestValidLeafWithEveryDefect(t *testing.T) {
	check := func(d impl.Box) {
		for _, defects := range [][]impl.Box{{d}, {box(0, 0, 1, 1), d}, {d, box(0, 0, 1, 1)}} {
			if l := leafOf(12, 10, defects...); impl.ValidLeaf(l) != withinAsTold(d, 12, 10) {
				t.Fatalf("ValidLeaf(%v) is %v", l, impl.ValidLeaf(l))
			}
		}
	}
	for _, x := range []int64{-1, 0, 1, 5, 11, 12, 13} {
		for _, y := range []int64{-1, 0, 1, 5, 9, 10, 11} {
			for width := int64(-1); width <= 14; width++ {
				for length := int64(-1); length <= 12; length++ {
					check(box(x, y, width, length))
				}
			}
		}
	}
	for _, n := range farCoordinates {
		for _, m := range farCoordinates {
			check(box(n, 0, m, 1))
			check(box(0, n, 1, m))
			check(box(n, m, 1, 1))
			check(box(0, 0, n, m))
		}
	}
}

func TestValidLeaves(t *testing.T) {
	for n := range 17 {
		if !impl.ValidLeaves(leavesOf(n)) {
			t.Errorf("a list of %d leaves is valid", n)
		}
	}
	for _, list := range [][]impl.Leaf{nil, {}, leavesOf(16)[7:], {leavesOf(3)[0], leavesOf(3)[2]}} {
		if !impl.ValidLeaves(list) {
			t.Errorf("%v is valid", list)
		}
	}
	for _, l := range goodLeaves() {
		if !impl.ValidLeaves([]impl.Leaf{l}) {
			t.Errorf("%v is valid", l)
		}
		// Leaves that differ in nothing but their Ids.
		if list := []impl.Leaf{l, l}; impl.ValidLeaves(list) || !impl.ValidLeaves(changedLeaves(list, func(list []impl.Leaf) { list[0].Id, list[1].Id = "a", "a0" })) {
			t.Errorf("%v is valid with the Ids a and a0, and only then", list)
		}
	}
	forBadLists(func(reason string, list []impl.Leaf) {
		if impl.ValidLeaves(list) {
			t.Errorf("%.300v is valid: %s", fmt.Sprint(list), reason)
		}
	})
}

func TestSameLeaf(t *testing.T) {
	all := goodLeaves()
	forBadLeaves(func(_ string, l impl.Leaf) { all = append(all, l) })
	for k, l := range all {
		for _, other := range append(all[k%7*3:k%7*3+12:k%7*3+12], l) {
			want := sameLeaves(l, other)
			if impl.SameLeaf(l, copyOfLeaf(other)) != want || impl.SameLeaf(copyOfLeaf(other), l) != want {
				t.Fatalf("SameLeaf(%.300v, %.300v) is not %v", fmt.Sprint(l), fmt.Sprint(other), want)
			}
		}
	}
	for _, l := range []impl.Leaf{{}, leafOf(10, 10), leafOf(-1, 0)} {
		for _, defects := range [][]impl.Box{nil, {}, make([]impl.Box, 0, 5)} {
			if other := changedLeaf(l, func(l *impl.Leaf) { l.Defects = defects }); !impl.SameLeaf(l, other) || !impl.SameLeaf(other, l) {
				t.Errorf("%v and %v are equal", l, other)
			}
		}
	}
}

// TestSameLeafNeedsAll makes one change after the other, also to leaves that are not valid.
func TestSameLeafNeedsAll(t *testing.T) {
	valid := leafOf(50, 40, box(1, 2, 3, 4), box(5, 6, 7, 8))
	bad := impl.Leaf{Id: "A", Flitch: "B C", Number: -3, Veneer: veneer("pine", 777, -5), Width: -1, Length: math.MinInt64, Defects: []impl.Box{box(-1, -2, -3, -4), box(math.MaxInt64, 0, 0, 0)}}
	for _, l := range []impl.Leaf{valid, bad, changedLeaf(valid, func(l *impl.Leaf) { l.Defects = append(l.Defects, box(0, 0, 1, 1)) })} {
		for reason, change := range map[string]func(l *impl.Leaf){
			"Id": func(l *impl.Leaf) { l.Id += "x" }, "no Id": func(l *impl.Leaf) { l.Id = "" }, "Flitch": func(l *impl.Leaf) { l.Flitch = "g" }, "Id and Flitch": func(l *impl.Leaf) { l.Id, l.Flitch = l.Flitch, l.Id }, "Number": func(l *impl.Leaf) { l.Number++ },
			"Species": func(l *impl.Leaf) { l.Veneer.Species = "beech" }, "Shade": func(l *impl.Leaf) { l.Veneer.Shade-- }, "Grain": func(l *impl.Leaf) { l.Veneer.Grain += 180 }, "no Veneer": func(l *impl.Leaf) { l.Veneer = impl.Veneer{} },
			"Width": func(l *impl.Leaf) { l.Width++ }, "Length": func(l *impl.Leaf) { l.Length-- }, "sides": func(l *impl.Leaf) { l.Width, l.Length = l.Length, l.Width }, "far Width": func(l *impl.Leaf) { l.Width += 1 << 32 },
			"X": func(l *impl.Leaf) { l.Defects[0].X++ }, "Y": func(l *impl.Leaf) { l.Defects[0].Y++ }, "width of a defect": func(l *impl.Leaf) { l.Defects[0].Width++ }, "length of a defect": func(l *impl.Leaf) { l.Defects[0].Length++ },
			"last X": func(l *impl.Leaf) { l.Defects[1].X = 9 }, "last Y": func(l *impl.Leaf) { l.Defects[1].Y = 9 }, "last width": func(l *impl.Leaf) { l.Defects[1].Width = 9 }, "last length": func(l *impl.Leaf) { l.Defects[1].Length = 9 },
			"order": func(l *impl.Leaf) { l.Defects[0], l.Defects[1] = l.Defects[1], l.Defects[0] }, "one less": func(l *impl.Leaf) { l.Defects = l.Defects[:len(l.Defects)-1] }, "no first": func(l *impl.Leaf) { l.Defects = l.Defects[1:] },
			"one more": func(l *impl.Leaf) { l.Defects = append(l.Defects, impl.Box{}) }, "none": func(l *impl.Leaf) { l.Defects = nil }, "the same": func(l *impl.Leaf) { l.Defects = slices.Repeat(l.Defects[:1], len(l.Defects)) },
		} {
			if other := changedLeaf(l, change); impl.SameLeaf(l, other) || impl.SameLeaf(other, l) || !impl.SameLeaf(other, copyOfLeaf(other)) {
				t.Errorf("%v and %v differ: %s", l, other, reason)
			}
		}
	}
}

// TestInvalidLeavesComeFirst has arguments that would lead to other codes.
func TestInvalidLeavesComeFirst(t *testing.T) {
	forBadLeaves(func(reason string, l impl.Leaf) {
		for _, place := range [][2]int64{{0, 0}, {-1, 0}, {0, math.MaxInt64}, {12, 12}} {
			if k, code := impl.DefectAt(l, place[0], place[1]); k != 0 || code != impl.ErrInvalid {
				t.Errorf("%s: DefectAt is %d, %d", reason, k, code)
			}
		}
		if area, code := impl.UsableArea(l); area != 0 || code != impl.ErrInvalid {
			t.Errorf("%s: UsableArea is %d, %d", reason, area, code)
		}
		if b, code := impl.LargestClear(l); b != (impl.Box{}) || code != impl.ErrInvalid {
			t.Errorf("%s: LargestClear is %v, %d", reason, b, code)
		}
		for _, b := range []impl.Box{{}, box(0, 0, 10, 10), box(0, 0, 9, 9), box(0, 0, l.Width, l.Length), box(-1, 0, 1, 1)} {
			if trimmed, code := impl.TrimLeaf(l, b); !isZeroLeaf(trimmed) || code != impl.ErrInvalid {
				t.Errorf("%s: TrimLeaf is %v, %d", reason, trimmed, code)
			}
		}
		for _, list := range [][]impl.Leaf{nil, {leafOf(10, 10)}, leavesOf(16), leavesOf(17)} {
			if added, code := impl.AddLeaf(list, l); len(added) != 0 || code != impl.ErrInvalid {
				t.Errorf("%s: AddLeaf is %v, %d", reason, added, code)
			}
		}
	})
}

func TestInvalidListsComeFirst(t *testing.T) {
	forBadLists(func(reason string, list []impl.Leaf) {
		for _, name := range []string{"", "b", "c", "f0", "f9", "oak", "pine", "ash", list[0].Id, list[0].Flitch} {
			leaves, leavesCode := impl.LeavesOf(list, name)
			flitch, flitchCode := impl.FlitchOf(list, name)
			dropped, droppedCode := impl.DropLeaf(list, name)
			added, addedCode := impl.AddLeaf(list, changedLeaf(leafOf(10, 10), func(l *impl.Leaf) { l.Id = name }))
			if len(leaves)+len(flitch)+len(dropped)+len(added) > 0 {
				t.Errorf("%s, %.20q: %v %v %v %v", reason, name, leaves, flitch, dropped, added)
			}
			if codes := []int64{leavesCode, flitchCode, droppedCode, addedCode}; !slices.Equal(codes, slices.Repeat([]int64{impl.ErrInvalid}, 4)) {
				t.Errorf("%s, %.20q: codes %v", reason, name, codes)
			}
		}
	})
}
