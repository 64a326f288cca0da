package tests

import (
	"math"
	"sync"

	"loop.example/g00956/impl"
)

// tanTable is the one of the document.
var tanTable = []int64{
	0, 175, 349, 524, 699, 875, 1051, 1228, 1405, 1584, 1763, 1944, 2126, 2309, 2493, 2679, 2867, 3057, 3249, 3443, 3640, 3839, 4040, 4245, 4452, 4663, 4877, 5095, 5317, 5543, 5774,
}

// Numbers that no thickness, no kerf or tolerance, and no angle of a bevel may be.
var (
	noThicknesses = []int64{0, -1, -90, -1000, 1001, 1002, 1 << 32, 1<<32 + 90, -1 << 32, math.MinInt64, math.MinInt64 + 90, math.MaxInt64 - 1, math.MaxInt64}
	noKerfs       = []int64{-1, -2, -16, -200, 201, 202, 1 << 32, 1<<32 + 16, -1 << 32, math.MinInt64, math.MinInt64 + 16, math.MaxInt64 - 1, math.MaxInt64}
	noBevels      = []int64{-1, -2, -10, -30, 31, 32, 45, 90, 180, 1 << 32, 1<<32 + 10, -1 << 32, math.MinInt64, math.MinInt64 + 10, math.MaxInt64 - 1, math.MaxInt64}
)

// widenings has, for each thickness and each angle, by how much a bevel makes the part wider: the quotient by 10000, where a half is rounded up.
var widenings = sync.OnceValue(func() [][]int64 {
	table := make([][]int64, impl.MaxThickness+1)
	for thickness := range table {
		for _, tangent := range tanTable {
			product := int64(thickness) * tangent
			whole, rest := product/10000, product%10000
			if rest >= 5000 {
				whole++
			}
			table[thickness] = append(table[thickness], whole)
		}
	}
	return table
})

func bevelGapAsTold(thickness, kerf, degrees int64) int64 {
	return kerf - widenings()[thickness][degrees]
}

func closesAsTold(thickness, kerf, degrees, tolerance int64) bool {
	gap := bevelGapAsTold(thickness, kerf, degrees)
	return -tolerance <= gap && gap <= tolerance
}

// bestBevelAsTold widens the tolerance until an angle closes the gap.
func bestBevelAsTold(thickness, kerf int64) int64 {
	for tolerance := int64(0); ; tolerance++ {
		for degrees := range int64(31) {
			if closesAsTold(thickness, kerf, degrees, tolerance) {
				return degrees
			}
		}
	}
}

// closingAsTold returns the angles that close the gaps of all sheets.
func closingAsTold(sheets []int64, kerf, tolerance int64) []int64 {
	var all []int64
	for degrees := range int64(31) {
		open := 0
		for _, thickness := range sheets {
			if !closesAsTold(thickness, kerf, degrees, tolerance) {
				open++
			}
		}
		if open == 0 {
			all = append(all, degrees)
		}
	}
	return all
}

// thicknessAsTold goes through all thicknesses; it is 0 if there is none.
func thicknessAsTold(kerf, degrees int64) int64 {
	for thickness := int64(1); thickness <= 1000; thickness++ {
		if bevelGapAsTold(thickness, kerf, degrees) <= 0 {
			return thickness
		}
	}
	return 0
}

// kerfLossAsTold rounds a half up: no loss is negative.
func kerfLossAsTold(p []impl.Point, kerf int64) int64 {
	var tenths int64
	for k, corner := range p {
		tenths += distanceAsTold(corner, p[(k+1)%len(p)]) * kerf
	}
	return (tenths + 5) / 10
}

func pathAsTold(d impl.Drawing) int64 {
	var sum int64
	for _, edge := range edgesAsTold(d) {
		sum += distanceAsTold(d.Points[edge[0]], d.Points[edge[1]])
	}
	return sum
}
