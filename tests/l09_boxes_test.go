package tests

import (
	"math/big"
	"testing"

	"loop.example/g00956/impl"
)

// checkMeet calls in both orders.
func checkMeet(t *testing.T, a, b impl.Box, want bool) {
	t.Helper()
	if first, second := impl.BoxesMeet(a, b), impl.BoxesMeet(b, a); first != want || second != want {
		t.Fatalf("BoxesMeet(%v, %v) is %v, and in the other order %v, want %v", a, b, first, second, want)
	}
}

func TestBoxesMeet(t *testing.T) {
	b := box(10, 20, 30, 40)
	for _, c := range []struct {
		other impl.Box
		want  bool
	}{
		// The same box, and boxes within it.
		{b, true}, {box(10, 20, 1, 1), true}, {box(39, 59, 1, 1), true}, {box(20, 30, 5, 5), true}, {box(0, 0, 100, 100), true}, {box(0, 0, most, most), true},
		// At a side, and one within it.
		{box(0, 20, 10, 40), false}, {box(0, 20, 11, 40), true}, {box(40, 20, 10, 40), false}, {box(39, 20, 10, 40), true}, {box(10, 0, 30, 20), false}, {box(10, 0, 30, 21), true}, {box(10, 60, 30, 10), false}, {box(10, 59, 30, 10), true}, {box(40, 30, 1, 1), false}, {box(9, 30, 1, 1), false},
		// At a corner, and one within it.
		{box(0, 0, 10, 20), false}, {box(0, 0, 11, 21), true}, {box(0, 0, 11, 20), false}, {box(0, 0, 10, 21), false}, {box(40, 60, 5, 5), false}, {box(39, 59, 5, 5), true}, {box(39, 60, 5, 5), false}, {box(40, 59, 5, 5), false},
		{box(0, 60, 10, 5), false}, {box(0, 59, 11, 5), true}, {box(0, 59, 10, 5), false}, {box(40, 0, 5, 20), false}, {box(39, 0, 5, 21), true}, {box(39, 0, 5, 20), false},
		// Crosses, where no corner of one lies within the other.
		{box(0, 30, 100, 5), true}, {box(20, 0, 5, 100), true}, {box(0, 21, 41, 1), true}, {box(39, 0, 1, 100), true}, {box(10, 0, 30, 100), true},
		// Apart.
		{box(50, 20, 30, 40), false}, {box(10, 70, 30, 40), false}, {box(50, 70, 1, 1), false}, {box(0, 0, 5, 5), false}, {box(0, 0, 100, 5), false}, {box(0, 0, 5, 100), false}, {box(0, 70, 100, 5), false}, {box(50, 0, 5, 100), false},
	} {
		checkMeet(t, b, c.other, c.want)
	}
	// The examples of the given test.
	checkMeet(t, box(0, 0, 5, 5), box(5, 0, 5, 5), false)
	checkMeet(t, box(0, 0, 5, 5), box(4, 4, 5, 5), true)
}

// TestBoxesMeetWhereTheyShareASquare looks at all squares of small boxes; those without a side have none.
func TestBoxesMeetWhereTheyShareASquare(t *testing.T) {
	var all []impl.Box
	for x := range int64(4) {
		for y := range int64(4) {
			for width := range int64(4) {
				for length := range int64(4) {
					all = append(all, box(x, y, width, length))
				}
			}
		}
	}
	for _, a := range all {
		for _, b := range all {
			want := false
			for x := range int64(7) {
				for y := range int64(7) {
					want = want || holds(a, x, y) && holds(b, x, y)
				}
			}
			checkMeet(t, a, b, want)
		}
	}
}

// meetAsTold computes with numbers of any size.
func meetAsTold(a, b impl.Box) bool {
	isBefore := func(from, otherFrom, otherSize int64) bool {
		end := new(big.Int).Add(big.NewInt(otherFrom), big.NewInt(otherSize))
		return big.NewInt(from).Cmp(end) < 0
	}
	return withinAsTold(a, 20000, 20000) && withinAsTold(b, 20000, 20000) &&
		isBefore(a.X, b.X, b.Width) && isBefore(b.X, a.X, a.Width) && isBefore(a.Y, b.Y, b.Length) && isBefore(b.Y, a.Y, a.Length)
}

func TestBoxesMeetAtTheLimits(t *testing.T) {
	whole := box(0, 0, most, most)
	for _, c := range []struct {
		b    impl.Box
		want bool
	}{
		{whole, true}, {box(most-1, most-1, 1, 1), true}, {box(0, 0, most, 1), true}, {box(0, 0, 1, most), true}, {box(most-1, 0, 1, most), true}, {box(5, 5, most-5, most-5), true},
		{box(-1, 0, 5, 5), false}, {box(0, -1, 5, 5), false}, {box(most, 0, 1, 5), false}, {box(0, most, 5, 1), false}, {box(most, 0, 0, 5), false}, {box(0, most, 5, 0), false}, {box(5, 5, 0, 5), false}, {box(5, 5, 5, 0), false}, {box(5, 5, -1, 5), false}, {box(5, 5, 5, -1), false},
		{box(0, 0, most+1, 5), false}, {box(0, 0, 5, most+1), false}, {box(1, 0, most, 5), false}, {box(0, 1, 5, most), false}, {box(most-1, 0, 2, 5), false}, {box(0, most-1, 5, 2), false}, {box(5, 5, most-4, 5), false}, {box(5, 5, 5, most-4), false},
	} {
		checkMeet(t, whole, c.b, c.want)
		checkMeet(t, c.b, c.b, c.want)
	}
	for _, bad := range boxesBeyond(most, most) {
		for _, b := range []impl.Box{whole, box(0, 0, 1, 1), box(5, 5, 1, 1), box(most-1, most-1, 1, 1), {}, bad, box(-1, -1, most, most)} {
			checkMeet(t, bad, b, false)
		}
	}
}

// TestBoxesMeetWithFarNumbers puts far numbers into each two places of one of the boxes.
func TestBoxesMeetWithFarNumbers(t *testing.T) {
	far := append([]int64{2, 3, most / 2, most - 1}, farCoordinates...)
	for _, base := range []impl.Box{box(0, 0, 7, 7), box(7, 7, 1, 1), box(0, 0, most, most), box(most-7, 7, 7, most-7)} {
		for place := range 6 {
			for _, n := range far {
				for _, m := range far {
					b := base
					numbers := []*int64{&b.X, &b.Y, &b.Width, &b.Length}
					*numbers[place%4] = n
					*numbers[(place+1+place/4)%4] = m
					for _, other := range []impl.Box{base, b, box(0, 0, most, most), box(6, 6, 2, 2)} {
						checkMeet(t, b, other, meetAsTold(b, other))
					}
				}
			}
		}
	}
}

func checkDefectAt(t *testing.T, l impl.Leaf, x, y, want, wantCode int64) {
	t.Helper()
	if k, code := impl.DefectAt(l, x, y); k != want || code != wantCode {
		t.Fatalf("DefectAt(%v, %d, %d) is %d, %d, want %d, %d", l, x, y, k, code, want, wantCode)
	}
}

func TestDefectAt(t *testing.T) {
	l := leafOf(100, 80, box(10, 20, 30, 40), box(30, 50, 30, 30), box(30, 50, 30, 30), box(99, 0, 1, 80), box(0, 0, 100, 1))
	for _, c := range [][4]int64{
		// The corners of the first defect, and the squares beside them.
		{10, 20, 0, impl.OK}, {9, 20, 0, impl.ErrNotFound}, {10, 19, 0, impl.ErrNotFound}, {9, 19, 0, impl.ErrNotFound}, {39, 20, 0, impl.OK}, {40, 20, 0, impl.ErrNotFound}, {39, 19, 0, impl.ErrNotFound}, {40, 19, 0, impl.ErrNotFound},
		{10, 59, 0, impl.OK}, {9, 59, 0, impl.ErrNotFound}, {10, 60, 0, impl.ErrNotFound}, {9, 60, 0, impl.ErrNotFound}, {25, 40, 0, impl.OK},
		// Where defects overlap, also the same box twice.
		{39, 59, 0, impl.OK}, {30, 50, 0, impl.OK}, {40, 59, 1, impl.OK}, {39, 60, 1, impl.OK}, {59, 79, 1, impl.OK}, {60, 79, 0, impl.ErrNotFound}, {30, 60, 1, impl.OK}, {29, 60, 0, impl.ErrNotFound}, {99, 0, 3, impl.OK}, {99, 79, 3, impl.OK}, {98, 79, 0, impl.ErrNotFound}, {98, 0, 4, impl.OK}, {0, 0, 4, impl.OK}, {0, 1, 0, impl.ErrNotFound}, {0, 79, 0, impl.ErrNotFound},
		// The edges of the leaf, where ErrRange comes first, also beside a defect.
		{-1, 20, 0, impl.ErrRange}, {-1, 0, 0, impl.ErrRange}, {100, 0, 0, impl.ErrRange}, {100, 79, 0, impl.ErrRange}, {50, -1, 0, impl.ErrRange}, {0, 80, 0, impl.ErrRange}, {59, 80, 0, impl.ErrRange}, {99, 80, 0, impl.ErrRange}, {-1, -1, 0, impl.ErrRange}, {100, 80, 0, impl.ErrRange}, {-1, 80, 0, impl.ErrRange}, {79, 99, 0, impl.ErrRange},
	} {
		checkDefectAt(t, l, c[0], c[1], c[2], c[3])
	}
	for _, l := range []impl.Leaf{l, leafOf(10, 10), leafOf(most, most, box(0, 0, most, most)), leafOf(10, most, box(0, most-1, 10, 1))} {
		far := append([]int64{5, l.Width - 1, l.Width, l.Width + 1, l.Length - 1, l.Length, l.Length + 1}, farCoordinates...)
		for _, x := range far {
			for _, y := range far {
				if x < 0 || y < 0 || x >= l.Width || y >= l.Length {
					checkDefectAt(t, l, x, y, 0, impl.ErrRange)
				} else if _, code := impl.DefectAt(l, x, y); code == impl.ErrRange {
					t.Errorf("DefectAt(%v, %d, %d) is ErrRange", l, x, y)
				}
			}
		}
	}
}

// TestDefectAtEverySquare also goes around the leaf.
func TestDefectAtEverySquare(t *testing.T) {
	for seed := range 400 {
		l := smallLeaf(seed)
		columns := spots(l)
		for x := int64(-1); x <= l.Width; x++ {
			for y := int64(-1); y <= l.Length; y++ {
				if x < 0 || y < 0 || x == l.Width || y == l.Length {
					checkDefectAt(t, l, x, y, 0, impl.ErrRange)
				} else if k := columns[x][y]; k < 0 {
					checkDefectAt(t, l, x, y, 0, impl.ErrNotFound)
				} else {
					checkDefectAt(t, l, x, y, k, impl.OK)
				}
			}
		}
	}
}
