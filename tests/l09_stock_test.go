package tests

import (
	"fmt"
	"slices"
	"testing"

	"loop.example/g00956/impl"
)

// givenLeaves are those of the given test.
func givenLeaves() []impl.Leaf {
	return []impl.Leaf{
		{Id: "a", Flitch: "f1", Number: 3, Veneer: veneer("oak", 40, 0), Width: 100, Length: 200, Defects: []impl.Box{box(40, 0, 20, 200)}},
		{Id: "b", Flitch: "f1", Number: 1, Veneer: veneer("oak", 42, 0), Width: 50, Length: 50, Defects: []impl.Box{box(0, 0, 10, 10), box(5, 5, 10, 10)}},
	}
}

func checkIndices(t *testing.T, what string, got []int64, code int64, want []int64, wantCode int64) {
	t.Helper()
	if !slices.Equal(got, want) || code != wantCode {
		t.Fatalf("%s is %v, %d, want %v, %d", what, got, code, want, wantCode)
	}
}

func TestLeavesOf(t *testing.T) {
	list := givenLeaves()
	for _, c := range []struct {
		list     []impl.Leaf
		species  string
		want     []int64
		wantCode int64
	}{
		{list, "oak", []int64{0, 1}, impl.OK}, {list, "ash", nil, impl.OK}, {list, "pine", nil, impl.ErrNotFound}, {list, "f1", nil, impl.ErrNotFound}, {list, "a", nil, impl.ErrNotFound}, {list[1:], "oak", []int64{0}, impl.OK}, {nil, "oak", nil, impl.OK}, {nil, "pine", nil, impl.ErrNotFound}, {[]impl.Leaf{}, "walnut", nil, impl.OK},
	} {
		got, code := impl.LeavesOf(c.list, c.species)
		checkIndices(t, "LeavesOf "+c.species, got, code, c.want, c.wantCode)
	}
	for n := range 17 {
		list := leavesOf(n)
		for _, w := range woods {
			var want []int64
			for k, l := range list {
				if l.Veneer.Species == w.name {
					want = append(want, int64(k))
				}
			}
			got, code := impl.LeavesOf(list, w.name)
			checkIndices(t, "LeavesOf "+w.name, got, code, want, impl.OK)
		}
		for _, name := range noSpecies() {
			got, code := impl.LeavesOf(list, name)
			checkIndices(t, "LeavesOf without a species", got, code, nil, impl.ErrNotFound)
		}
	}
}

// flitchAsTold goes through the Numbers, and for each one through the leaves.
func flitchAsTold(list []impl.Leaf, flitch string) []int64 {
	var places []int64
	for number := range int64(1000) {
		for k, l := range list {
			if l.Flitch == flitch && l.Number == number {
				places = append(places, int64(k))
			}
		}
	}
	return places
}

// numbered gives the leaves of a list other Numbers, and all of them one flitch.
func numbered(list []impl.Leaf, number func(k int) int64) []impl.Leaf {
	return changedLeaves(list, func(list []impl.Leaf) {
		for k := range list {
			list[k].Flitch, list[k].Number = "one", number(k)
		}
	})
}

func TestFlitchOf(t *testing.T) {
	list := givenLeaves()
	got, code := impl.FlitchOf(list, "f1")
	checkIndices(t, "FlitchOf f1", got, code, []int64{1, 0}, impl.OK)
	got, code = impl.FlitchOf(list, "f2")
	checkIndices(t, "FlitchOf f2", got, code, nil, impl.ErrNotFound)
	for n := range 17 {
		for _, list := range [][]impl.Leaf{
			leavesOf(n), numbered(leavesOf(n), func(k int) int64 { return 7 }), numbered(leavesOf(n), func(k int) int64 { return 999 - int64(k) }), numbered(leavesOf(n), func(k int) int64 { return int64(k) }),
			numbered(leavesOf(n), func(k int) int64 { return int64(k % 2) }), numbered(leavesOf(n), func(k int) int64 { return int64((n - k) / 3) }), numbered(leavesOf(n), func(k int) int64 { return int64(k * 617 % 1000) }), numbered(leavesOf(n), func(k int) int64 { return 999 * int64((k+1)%2) }),
		} {
			for _, flitch := range append([]string{"f0", "f1", "f2", "f3", "f", "one", "on", "ones", "b", "oak"}, noNames...) {
				want, wantCode := flitchAsTold(list, flitch), int64(impl.OK)
				if len(want) == 0 {
					wantCode = impl.ErrNotFound
				}
				got, code := impl.FlitchOf(list, flitch)
				checkIndices(t, fmt.Sprintf("FlitchOf(%v, %.20q)", list, flitch), got, code, want, wantCode)
			}
		}
	}
}

// checkStock compares a list that is made, which is valid with the code OK.
func checkStock(t *testing.T, what string, got []impl.Leaf, code int64, want []impl.Leaf, wantCode int64) {
	t.Helper()
	if !sameLeaves(got, want) || len(got) != len(want) || code != wantCode || code == impl.OK && !impl.ValidLeaves(got) {
		t.Fatalf("%.500s is %v, %d, want %v, %d", what, got, code, want, wantCode)
	}
}

func checkAdded(t *testing.T, list []impl.Leaf, l impl.Leaf, want []impl.Leaf, wantCode int64) {
	t.Helper()
	got, code := impl.AddLeaf(list, l)
	checkStock(t, fmt.Sprintf("AddLeaf(%v, %v)", list, l), got, code, want, wantCode)
}

// TestAddLeaf takes each leaf out of a list and adds it again.
func TestAddLeaf(t *testing.T) {
	for n := 1; n <= 16; n++ {
		list := leavesOf(n)
		for k, l := range list {
			checkAdded(t, slices.Concat(list[:k], list[k+1:]), l, list, impl.OK)
		}
	}
	list := givenLeaves()
	for _, c := range []struct{ id, want string }{{"a0", "a a0 b"}, {"aa", "a aa b"}, {"b0", "a b b0"}, {"c", "a b c"}, {"az", "a az b"}, {"zzzzzzzzzz", "a b zzzzzzzzzz"}} {
		l := changedLeaf(leafOf(10, 10), func(l *impl.Leaf) { l.Id = c.id })
		got, code := impl.AddLeaf(list, l)
		ids := ""
		for _, l := range got {
			ids += " " + l.Id
		}
		if ids != " "+c.want || code != impl.OK || !impl.ValidLeaves(got) {
			t.Errorf("with %s, the Ids are %s, %d", c.id, ids, code)
		}
	}
	for _, l := range goodLeaves() {
		checkAdded(t, nil, l, []impl.Leaf{l}, impl.OK)
		checkAdded(t, []impl.Leaf{}, l, []impl.Leaf{l}, impl.OK)
	}
}

// TestAddLeafRefuses has leaves that differ from those of the list in everything but their Ids.
func TestAddLeafRefuses(t *testing.T) {
	for n := range 17 {
		list := leavesOf(n)
		for _, l := range list {
			checkAdded(t, list, l, nil, impl.ErrExists)
			checkAdded(t, list, changedLeaf(leafOf(77, 78), func(other *impl.Leaf) { other.Id = l.Id }), nil, impl.ErrExists)
		}
	}
	full := leavesOf(16)
	for _, id := range []string{"a", "b0", "f5", "h", "q0", "z"} {
		l := changedLeaf(leafOf(10, 10), func(l *impl.Leaf) { l.Id = id })
		want := int64(impl.ErrFull)
		if id == "h" {
			want = impl.ErrExists
		}
		checkAdded(t, full, l, nil, want)
		checkAdded(t, full, changedLeaf(l, func(l *impl.Leaf) { l.Number = 1000 }), nil, impl.ErrInvalid)
		checkAdded(t, leavesOf(17), l, nil, impl.ErrInvalid)
	}
	bad := leafOf(9, 10)
	checkAdded(t, nil, bad, nil, impl.ErrInvalid)
	checkAdded(t, []impl.Leaf{bad}, leafOf(10, 10), nil, impl.ErrInvalid)
	checkAdded(t, []impl.Leaf{leafOf(10, 10)}, bad, nil, impl.ErrInvalid)
}

func checkDropped(t *testing.T, list []impl.Leaf, id string, want []impl.Leaf, wantCode int64) {
	t.Helper()
	got, code := impl.DropLeaf(list, id)
	checkStock(t, fmt.Sprintf("DropLeaf(%v, %.20q)", list, id), got, code, want, wantCode)
}

func TestDropLeaf(t *testing.T) {
	for n := range 17 {
		list := leavesOf(n)
		for k, l := range list {
			checkDropped(t, list, l.Id, slices.Concat(list[:k], list[k+1:]), impl.OK)
		}
		// Flitches and species are no Ids, and neither are parts of Ids.
		for _, id := range append([]string{"a", "b0", "bb", "f0", "f1", "oak", "z", "aa"}, noNames...) {
			checkDropped(t, list, id, nil, impl.ErrNotFound)
		}
	}
	list := givenLeaves()
	checkDropped(t, list, "a", list[1:], impl.OK)
	checkDropped(t, list, "b", list[:1], impl.OK)
	checkDropped(t, list, "c", nil, impl.ErrNotFound)
	checkDropped(t, nil, "a", nil, impl.ErrNotFound)
	checkDropped(t, list[:1], "a", nil, impl.OK)
}

// TestAddingAndDroppingLeadBack fills a list in another order, and empties it again.
func TestAddingAndDroppingLeadBack(t *testing.T) {
	all := leavesOf(16)
	for step := 1; step < 16; step += 2 {
		var list []impl.Leaf
		for n := range 16 {
			l := all[n*step%16]
			added, code := impl.AddLeaf(list, l)
			back, backCode := impl.DropLeaf(added, l.Id)
			if code != impl.OK || backCode != impl.OK || !sameLeaves(back, list) || len(added) != n+1 {
				t.Fatalf("%v with and without %s is %v", list, l.Id, back)
			}
			list = added
		}
		if !sameLeaves(list, all) {
			t.Fatalf("the list is %v", list)
		}
		for n := range 16 {
			list, _ = impl.DropLeaf(list, all[(n*step+5)%16].Id)
			if len(list) != 15-n {
				t.Fatalf("%d leaves are left", len(list))
			}
		}
	}
}
