package tests

import (
	"fmt"
	"math"
	"math/big"
	"slices"
	"strings"

	"loop.example/g00956/impl"
)

func box(x, y, width, length int64) impl.Box {
	return impl.Box{X: x, Y: y, Width: width, Length: length}
}

// leafOf is a leaf of oak.
func leafOf(width, length int64, defects ...impl.Box) impl.Leaf {
	return impl.Leaf{Id: "a", Flitch: "f", Veneer: veneer("oak", 40, 0), Width: width, Length: length, Defects: defects}
}

func copyOfLeaf(l impl.Leaf) impl.Leaf {
	l.Defects = append([]impl.Box(nil), l.Defects...)
	return l
}

func changedLeaf(l impl.Leaf, change func(l *impl.Leaf)) impl.Leaf {
	l = copyOfLeaf(l)
	change(&l)
	return l
}

func copyOfLeaves(list []impl.Leaf) []impl.Leaf {
	var leaves []impl.Leaf
	for _, l := range list {
		leaves = append(leaves, copyOfLeaf(l))
	}
	return leaves
}

func changedLeaves(list []impl.Leaf, change func(list []impl.Leaf)) []impl.Leaf {
	list = copyOfLeaves(list)
	change(list)
	return list
}

// sameLeaves does not tell a nil slice from an empty one.
func sameLeaves(a, b any) bool { return fmt.Sprint(a) == fmt.Sprint(b) }

func isZeroLeaf(l impl.Leaf) bool { return sameLeaves(l, impl.Leaf{}) }

// dice returns numbers from 0 to n - 1 that look irregular, but are the same for the same seed.
func dice(seed int) func(n int64) int64 {
	state := uint64(seed)*0x9e3779b97f4a7c15 + 1
	return func(n int64) int64 {
		state = state*6364136223846793005 + 1442695040888963407
		return int64(state>>33) % n
	}
}

// withinAsTold computes with numbers of any size.
func withinAsTold(b impl.Box, width, length int64) bool {
	isWithin := func(from, size, limit int64) bool {
		end := new(big.Int).Add(big.NewInt(from), big.NewInt(size))
		return from >= 0 && size >= 1 && end.Cmp(big.NewInt(limit)) <= 0
	}
	return isWithin(b.X, b.Width, width) && isWithin(b.Y, b.Length, length)
}

// holds reports whether the square at x, y with the sides 1 lies in a box that lies within some width and length.
func holds(b impl.Box, x, y int64) bool {
	return b.X <= x && x <= b.X+b.Width-1 && b.Y <= y && y <= b.Y+b.Length-1
}

func leafAsTold(l impl.Leaf) bool {
	_, isVeneer := veneerAsTold(fmt.Sprintf("%s %d %d", l.Veneer.Species, l.Veneer.Shade, l.Veneer.Grain))
	isSide := func(n int64) bool { return 10 <= n && n <= 20000 }
	for _, d := range l.Defects {
		if !withinAsTold(d, l.Width, l.Length) {
			return false
		}
	}
	return looksLikeAName(l.Id) && looksLikeAName(l.Flitch) && 0 <= l.Number && l.Number <= 999 && isVeneer && isSide(l.Width) && isSide(l.Length) && len(l.Defects) <= 6
}

// spots has for each square of a leaf, first by X and then by Y, the index of its first defect, and -1 where there is none.
func spots(l impl.Leaf) [][]int64 {
	columns := make([][]int64, l.Width)
	for x := range columns {
		columns[x] = slices.Repeat([]int64{-1}, int(l.Length))
	}
	for k, d := range l.Defects {
		for x := d.X; x < d.X+d.Width; x++ {
			for y := d.Y; y < d.Y+d.Length; y++ {
				if columns[x][y] < 0 {
					columns[x][y] = int64(k)
				}
			}
		}
	}
	return columns
}

// usableBySquares counts squares.
func usableBySquares(l impl.Leaf) int64 {
	var sum int64
	for _, column := range spots(l) {
		for _, k := range column {
			if k < 0 {
				sum++
			}
		}
	}
	return sum
}

// largestBySquares goes through all boxes in their order, with the number of spoilt squares below and to the left of each point; it returns the zero Box if none is clear.
func largestBySquares(l impl.Leaf) impl.Box {
	columns := spots(l)
	spoilt := make([][]int, l.Width+1)
	for x := range spoilt {
		spoilt[x] = make([]int, l.Length+1)
		for y := range spoilt[x] {
			if x > 0 && y > 0 {
				spoilt[x][y] = spoilt[x-1][y] + spoilt[x][y-1] - spoilt[x-1][y-1]
				if columns[x-1][y-1] >= 0 {
					spoilt[x][y]++
				}
			}
		}
	}
	var best impl.Box
	for x := range l.Width {
		for y := range l.Length {
			for right := x + 1; right <= l.Width; right++ {
				for high := y + 1; high <= l.Length; high++ {
					isClear := spoilt[right][high]-spoilt[x][high]-spoilt[right][y]+spoilt[x][y] == 0
					if isClear && (right-x)*(high-y) > best.Width*best.Length {
						best = box(x, y, right-x, high-y)
					}
				}
			}
		}
	}
	return best
}

// overlap is the common part of some boxes; its area is 0 if there is none.
func overlap(width, length int64, boxes ...impl.Box) (common impl.Box, area int64) {
	left, low, right, high := int64(0), int64(0), width, length
	for _, b := range boxes {
		left, low, right, high = max(left, b.X), max(low, b.Y), min(right, b.X+b.Width), min(high, b.Y+b.Length)
	}
	if left >= right || low >= high {
		return impl.Box{}, 0
	}
	return box(left, low, right-left, high-low), (right - left) * (high - low)
}

// usableBySets adds and subtracts the common parts of all sets of defects.
func usableBySets(l impl.Leaf) int64 {
	var sum int64
	for set := range 1 << len(l.Defects) {
		sign := int64(1)
		var boxes []impl.Box
		for k, d := range l.Defects {
			if set>>k&1 == 1 {
				boxes = append(boxes, d)
				sign = -sign
			}
		}
		_, area := overlap(l.Width, l.Length, boxes...)
		sum += sign * area
	}
	return sum
}

// largestByLines goes through the boxes whose sides lie on a side of the leaf or of a defect, in their order.
func largestByLines(l impl.Leaf) impl.Box {
	xs, ys := []int64{0, l.Width}, []int64{0, l.Length}
	for _, d := range l.Defects {
		xs = append(xs, d.X, d.X+d.Width)
		ys = append(ys, d.Y, d.Y+d.Length)
	}
	slices.Sort(xs)
	slices.Sort(ys)
	var best impl.Box
	for _, x := range xs {
		for _, y := range ys {
			for _, right := range xs {
				for _, high := range ys {
					b := box(x, y, right-x, high-y)
					if right > x && high > y && b.Width*b.Length > best.Width*best.Length && isClear(l, b) {
						best = b
					}
				}
			}
		}
	}
	return best
}

func isClear(l impl.Leaf, b impl.Box) bool {
	for _, d := range l.Defects {
		if _, area := overlap(l.Width, l.Length, d, b); area > 0 {
			return false
		}
	}
	return true
}

// smallLeaf is one of which all squares can be looked at.
func smallLeaf(seed int) impl.Leaf {
	next := dice(seed)
	l := leafOf(10+next(4), 10+next(4))
	size := []int64{2, 4, 8, 14}[seed%4]
	for range int64(seed) % 7 {
		x, y := next(l.Width), next(l.Length)
		d := box(x, y, 1+next(min(size, l.Width-x)), 1+next(min(size, l.Length-y)))
		if seed%8 == 7 {
			// Defects to the far edges, or nearly so, leave little or nothing.
			x, y = next(3)*4, next(3)*4
			d = box(x, y, l.Width-x-next(2)*next(2), l.Length-y-next(2)*next(2))
		}
		l.Defects = append(l.Defects, d)
	}
	return l
}

// farLeaf has sides at the limit, and defects on lines that are few enough for boxes with equal areas.
func farLeaf(seed int) impl.Leaf {
	next := dice(seed)
	l := leafOf(most, most)
	lines := []int64{0, 1, most / 4, most / 2, most/2 + 1, most * 3 / 4, most - 1, most}
	for len(l.Defects) < 6-seed%2 {
		left, low, right, high := next(8), next(8), next(8), next(8)
		if seed%5 == 4 {
			d := box(next(most), next(most), 1+next(most), 1+next(most))
			d.Width, d.Length = min(d.Width, most-d.X), min(d.Length, most-d.Y)
			l.Defects = append(l.Defects, d)
		} else if left < right && low < high {
			l.Defects = append(l.Defects, box(lines[left], lines[low], lines[right]-lines[left], lines[high]-lines[low]))
		}
	}
	return l
}

// goodLeaves are valid, and reach each limit.
func goodLeaves() []impl.Leaf {
	list := []impl.Leaf{
		leafOf(100, 100, box(40, 0, 20, 100)), leafOf(10, 10), leafOf(most, most), leafOf(10, most), leafOf(most, 10), leafOf(10, 10, box(0, 0, 10, 10)), leafOf(10, 10, box(9, 9, 1, 1)), leafOf(10, 10, slices.Repeat([]impl.Box{box(3, 4, 5, 6)}, 6)...),
		leafOf(most, most, box(0, 0, most, most)), leafOf(most, most, box(most-1, most-1, 1, 1), box(0, 0, 1, 1), box(0, most-1, 1, 1), box(most-1, 0, 1, 1), box(most/2, 0, 1, most), box(0, most/2, most, 1)),
		{Id: "z", Flitch: "z9", Number: 999, Veneer: veneer("ebony", 100, 179), Width: 11, Length: 12, Defects: []impl.Box{box(0, 0, 11, 1), box(10, 0, 1, 12)}},
		{Id: "abcdefghij", Flitch: "a123456789", Number: 1, Veneer: veneer("holly", 0, 0), Width: 19999, Length: 11},
	}
	for seed := range 60 {
		l := smallLeaf(seed)
		l.Id, l.Flitch, l.Number, l.Veneer = letter(seed%26)+letter(seed%7), letter(seed%3)+"1", int64(seed%9), goodVeneers()[seed*5]
		list = append(list, l, farLeaf(seed))
	}
	return list
}

// noNames are texts that are no names.
var noNames = []string{"", " ", "A", "aB", "7", "7a", "a-", "a b", " a", "a ", "a_", "a/", "a,", "a\x00", "\x00", "a\n", "a{", "{", "`", "-", "abcdefghijk", "a1234567890", "\xff", "a\xc3\xa4", strings.Repeat("a", 256), strings.Repeat("a", 100000)}

// forBadLeaves calls check with leaves that are not valid for one reason each.
func forBadLeaves(check func(reason string, l impl.Leaf)) {
	base := leafOf(50, 40, box(5, 5, 10, 10), box(10, 0, 40, 40))
	with := func(reason string, change func(l *impl.Leaf)) { check(reason, changedLeaf(base, change)) }
	for _, name := range noNames {
		with("Id", func(l *impl.Leaf) { l.Id = name })
		with("Flitch", func(l *impl.Leaf) { l.Flitch = name })
	}
	for _, n := range []int64{-1, 1000, 1001, -999, 1 << 32, math.MinInt64, math.MaxInt64} {
		with("Number", func(l *impl.Leaf) { l.Number = n })
	}
	for _, v := range badVeneers() {
		with("Veneer", func(l *impl.Leaf) { l.Veneer = v })
	}
	for _, n := range []int64{9, 20001, 0, -1, 1, -10, -most, 20010, 1 << 32, 1<<32 + 50, math.MinInt64, math.MinInt64 + 50, math.MaxInt64} {
		with("Width", func(l *impl.Leaf) { l.Width, l.Defects = n, nil })
		with("Length", func(l *impl.Leaf) { l.Length, l.Defects = n, nil })
		with("Width and Length", func(l *impl.Leaf) { l.Width, l.Length, l.Defects = n, n, nil })
	}
	with("a defect behind the edge", func(l *impl.Leaf) { l.Width-- })
	with("a defect behind the edge", func(l *impl.Leaf) { l.Length-- })
	for _, d := range boxesBeyond(50, 40) {
		with("the only defect", func(l *impl.Leaf) { l.Defects = []impl.Box{d} })
		with("the first defect", func(l *impl.Leaf) { l.Defects[0] = d })
		with("the last defect", func(l *impl.Leaf) { l.Defects[1] = d })
	}
	for _, n := range []int{7, 8, 12, 100000} {
		with("too many defects", func(l *impl.Leaf) { l.Defects = slices.Repeat([]impl.Box{box(0, 0, 1, 1)}, n) })
	}
	check("the zero Leaf", impl.Leaf{})
	check("only Defects", impl.Leaf{Defects: []impl.Box{{}}})
}

// boxesBeyond do not lie within a width and a length, for one reason each.
func boxesBeyond(width, length int64) []impl.Box {
	far := []int64{math.MinInt64, math.MinInt64 + 1, -1 << 32, -most, -1}
	list := []impl.Box{
		{}, box(0, 0, 0, 1), box(0, 0, 1, 0), box(0, 0, 0, 0), box(width, 0, 0, 1), box(0, length, 1, 0), box(width, 0, 1, 1), box(0, length, 1, 1), box(width, length, 1, 1), box(width-1, 0, 2, 1), box(0, length-1, 1, 2),
		box(0, 0, width+1, length), box(0, 0, width, length+1), box(1, 0, width, length), box(0, 1, width, length), box(width+1, 0, 1, 1), box(0, length+1, 1, 1), box(-1, 0, 1, 1), box(0, -1, 1, 1), box(-1, 0, width, length), box(0, -1, width, length),
		box(-1, 0, width+1, length), box(0, -1, width, length+1), box(width+1, 0, -1, 1), box(0, length+1, 1, -1), box(width+5, 0, -5, 1), box(0, length+5, 1, -5), box(5, 0, -1, 1), box(0, 5, 1, -1), box(5, 5, -5, -5), box(width, length, -width, -length),
	}
	for _, n := range append(far, 1<<32, math.MaxInt64-most, math.MaxInt64-1, math.MaxInt64) {
		list = append(list, box(n, 0, 1, 1), box(0, n, 1, 1), box(0, 0, n, 1), box(0, 0, 1, n), box(5, 5, n, 1), box(5, 5, 1, n), box(n, n, 1, 1), box(1, 1, n, n), box(n, n, n, n))
		for _, m := range append(far, math.MaxInt64-1, math.MaxInt64) {
			list = append(list, box(n, 0, m, 1), box(0, n, 1, m))
		}
	}
	return list
}

// leavesOf returns n leaves in the order of their Ids, from b on, of several flitches and species.
func leavesOf(n int) []impl.Leaf {
	var list []impl.Leaf
	for k := range n {
		l := smallLeaf(k)
		w := woods[k*3%7]
		l.Id, l.Flitch, l.Number, l.Veneer = letter(k+1), fmt.Sprint("f", k%3), int64(k*7%5), veneer(w.name, w.shade, int64(k))
		list = append(list, l)
	}
	return list
}

// forBadLists calls check with lists of leaves that are not valid for one reason each.
func forBadLists(check func(reason string, list []impl.Leaf)) {
	check("one leaf too many", leavesOf(17))
	check("very many leaves", slices.Repeat(leavesOf(1), 100000))
	check("only zero leaves", make([]impl.Leaf, 3))
	list := leavesOf(4)
	for _, ids := range []string{"b b c d", "b c c d", "b c d d", "c b d e", "b d c e", "b c e d", "e d c b", "b c d a", "a2 a10 b c", "bb b c d", "b0 b c d", "b b b b"} {
		words := strings.Fields(ids)
		check("Ids "+ids, changedLeaves(list, func(list []impl.Leaf) {
			for k := range list {
				list[k].Id = words[k]
			}
		}))
	}
	lists := [][]impl.Leaf{leavesOf(1), leavesOf(4), leavesOf(16)}
	n := 0
	forBadLeaves(func(reason string, l impl.Leaf) {
		n++
		for _, list := range lists {
			check(reason, changedLeaves(list, func(list []impl.Leaf) {
				place := n % len(list)
				id := list[place].Id
				list[place] = l
				if looksLikeAName(l.Id) {
					list[place].Id = id
				}
			}))
		}
	})
}
