package tests

import (
	"fmt"
	"slices"
	"testing"

	"loop.example/g00956/impl"
)

// cleaningStep follows the words of the document for a function of chapter 6 that makes one drawing of another. It changes the drawing that it is given.
type cleaningStep struct {
	hasTolerance bool
	change       func(d *impl.Drawing, tolerance int64)
}

var (
	snapAsTold         = cleaningStep{true, snapPoints}
	mergeAsTold        = cleaningStep{true, joinNearPoints}
	insertAsTold       = cleaningStep{false, func(d *impl.Drawing, _ int64) { putJunctionsIn(d) }}
	dropStraightAsTold = cleaningStep{false, func(d *impl.Drawing, _ int64) { takeStraightOut(d) }}
	dropUnusedAsTold   = cleaningStep{false, func(d *impl.Drawing, _ int64) { removePoints(d, func(k int) bool { return !isUsed(*d, int64(k)) }) }}
)

// asTold makes the steps one after the other.
func asTold(d impl.Drawing, tolerance int64, steps ...cleaningStep) (impl.Drawing, int64) {
	if !impl.ValidDrawing(d) {
		return impl.Drawing{}, impl.ErrInvalid
	}
	for _, step := range steps {
		if step.hasTolerance && (tolerance < 0 || tolerance > 200) {
			return impl.Drawing{}, impl.ErrRange
		}
		d = changed(d, func(d *impl.Drawing) { step.change(d, tolerance) })
		if !impl.ValidDrawing(d) {
			return impl.Drawing{}, impl.ErrState
		}
	}
	return d, impl.OK
}

func cleanAsTold(d impl.Drawing, tolerance int64) (impl.Drawing, int64) {
	return asTold(d, tolerance, snapAsTold, mergeAsTold, insertAsTold, dropStraightAsTold, dropUnusedAsTold)
}

func snapPoints(d *impl.Drawing, tolerance int64) {
	snap := func(n *int64, size int64) {
		if *n <= tolerance {
			*n = 0
		} else if *n >= size-tolerance {
			*n = size
		}
	}
	for k := range d.Points {
		snap(&d.Points[k].X, d.Width)
		snap(&d.Points[k].Y, d.Height)
	}
}

func joinNearPoints(d *impl.Drawing, tolerance int64) {
	joins := make([]int, len(d.Points))
	for k, p := range d.Points {
		joins[k] = k
		// Backwards, so that the first one is found last.
		for m := k - 1; m >= 0; m-- {
			if joins[m] == m && areNear(d.Points[m], p, tolerance) {
				joins[k] = m
			}
		}
	}
	for f := range d.Faces {
		var ring []int64
		for _, k := range d.Faces[f].Ring {
			if to := int64(joins[k]); len(ring) == 0 || ring[len(ring)-1] != to {
				ring = append(ring, to)
			}
		}
		for len(ring) > 1 && ring[0] == ring[len(ring)-1] {
			ring = ring[:len(ring)-1]
		}
		d.Faces[f].Ring = ring
	}
	removePoints(d, func(k int) bool { return joins[k] != k })
}

// areNear compares squares: a distance is rounded down.
func areNear(p, q impl.Point, tolerance int64) bool {
	dx, dy := p.X-q.X, p.Y-q.Y
	return dx*dx+dy*dy < (tolerance+1)*(tolerance+1)
}

// removePoints removes one point after the other, from the last one on.
func removePoints(d *impl.Drawing, isRemoved func(k int) bool) {
	for k := len(d.Points) - 1; k >= 0; k-- {
		if !isRemoved(k) {
			continue
		}
		d.Points = slices.Delete(d.Points, k, k+1)
		for _, face := range d.Faces {
			for n := range face.Ring {
				if face.Ring[n] > int64(k) {
					face.Ring[n]--
				}
			}
		}
	}
}

func isUsed(d impl.Drawing, k int64) bool {
	return slices.ContainsFunc(d.Faces, func(face impl.Face) bool { return slices.Contains(face.Ring, k) })
}

func junctionsAsTold(d impl.Drawing) [][]int64 {
	var pairs [][]int64
	for f, face := range d.Faces {
		for k := range int64(len(d.Points)) {
			if isUsed(d, k) && !slices.Contains(face.Ring, k) && edgeWith(d, face.Ring, k) >= 0 {
				pairs = append(pairs, []int64{k, int64(f)})
			}
		}
	}
	return pairs
}

// edgeWith returns the place in a Ring of the beginning of the first edge on which a point lies, and -1 if there is none.
func edgeWith(d impl.Drawing, ring []int64, k int64) int {
	p := d.Points[k]
	for n := range ring {
		a, b := d.Points[ring[n]], d.Points[ring[(n+1)%len(ring)]]
		within := min(a.X, b.X) <= p.X && p.X <= max(a.X, b.X) && min(a.Y, b.Y) <= p.Y && p.Y <= max(a.Y, b.Y)
		if within && product(a, b, a, p) == 0 {
			return n
		}
	}
	return -1
}

// putJunctionsIn looks for the place of each point among those that are in already.
func putJunctionsIn(d *impl.Drawing) {
	for _, pair := range junctionsAsTold(*d) {
		face := &d.Faces[pair[1]]
		place := edgeWith(*d, face.Ring, pair[0])
		face.Ring = slices.Insert(face.Ring, place+1, pair[0])
	}
}

func straightAsTold(d impl.Drawing) []int64 {
	var straight []int64
	for k := range int64(len(d.Points)) {
		isStraight := isUsed(d, k)
		for _, face := range d.Faces {
			n, place := len(face.Ring), slices.Index(face.Ring, k)
			if place >= 0 {
				before, behind := d.Points[face.Ring[(place+n-1)%n]], d.Points[face.Ring[(place+1)%n]]
				isStraight = isStraight && n > 3 && product(before, d.Points[k], before, behind) == 0
			}
		}
		if isStraight {
			straight = append(straight, k)
		}
	}
	return straight
}

func takeStraightOut(d *impl.Drawing) {
	for straight := straightAsTold(*d); len(straight) > 0; straight = straightAsTold(*d) {
		for f := range d.Faces {
			d.Faces[f].Ring = slices.DeleteFunc(d.Faces[f].Ring, func(k int64) bool { return k == straight[0] })
		}
	}
}

func sliversAsTold(d impl.Drawing, width int64) []int64 {
	var slivers []int64
	for f := range d.Faces {
		p, greatest := polygonOf(d, f), int64(0)
		for _, a := range p {
			for _, b := range p {
				greatest = max(greatest, distanceAsTold(a, b))
			}
		}
		if fanArea(p) < width*greatest {
			slivers = append(slivers, int64(f))
		}
	}
	return slivers
}

// checkMade compares a drawing that is returned with the one that the document tells.
func checkMade(t *testing.T, what string, got impl.Drawing, code int64, want impl.Drawing, wantCode int64) {
	t.Helper()
	if code != wantCode || !impl.SameDrawing(got, want) || code != impl.OK && !isZero(got) {
		t.Fatalf("%.400s is %.400v, %d, want %.400v, %d", what, fmt.Sprint(got), code, fmt.Sprint(want), wantCode)
	}
}

// checkSteps compares the functions of chapter 6 without a tolerance with the words of the document.
func checkSteps(t *testing.T, d impl.Drawing) {
	t.Helper()
	for what, c := range map[string]struct {
		made func(d impl.Drawing) (impl.Drawing, int64)
		step cleaningStep
	}{"InsertJunctions ": {impl.InsertJunctions, insertAsTold}, "DropStraight ": {impl.DropStraight, dropStraightAsTold}, "DropUnused ": {impl.DropUnused, dropUnusedAsTold}} {
		got, code := c.made(d)
		want, wantCode := asTold(d, 0, c.step)
		checkMade(t, fmt.Sprint(what, d), got, code, want, wantCode)
	}
	junctions, code := impl.JunctionsOf(d)
	checkList(t, fmt.Sprint("JunctionsOf ", d), junctions, code, junctionsAsTold(d))
	straight, code := impl.StraightPoints(d)
	checkList(t, fmt.Sprint("StraightPoints ", d), straight, code, straightAsTold(d))
	if want := isCleanAsTold(d); impl.IsClean(d) != want {
		t.Fatalf("IsClean(%v) is %v", d, !want)
	}
}

// checkCleaning compares the functions of chapter 6 with a tolerance with the words of the document, and is promise 7 for a drawing and a tolerance. It reports whether the drawing is cleaned.
func checkCleaning(t *testing.T, d impl.Drawing, tolerance int64) bool {
	t.Helper()
	snapped, code := impl.SnapDrawing(d, tolerance)
	want, wantCode := asTold(d, tolerance, snapAsTold)
	checkMade(t, fmt.Sprint("SnapDrawing ", d, tolerance), snapped, code, want, wantCode)
	merged, code := impl.MergePoints(d, tolerance)
	want, wantCode = asTold(d, tolerance, mergeAsTold)
	checkMade(t, fmt.Sprint("MergePoints ", d, tolerance), merged, code, want, wantCode)
	return checkPromise7(t, d, tolerance)
}

func isCleanAsTold(d impl.Drawing) bool {
	unused := false
	for k := range d.Points {
		unused = unused || !isUsed(d, int64(k))
	}
	return impl.ValidDrawing(d) && len(junctionsAsTold(d)) == 0 && len(straightAsTold(d)) == 0 && !unused
}

// checkPromise7 reports whether the drawing is cleaned.
func checkPromise7(t *testing.T, d impl.Drawing, tolerance int64) bool {
	t.Helper()
	clean, code := impl.CleanDrawing(d, tolerance)
	want, wantCode := cleanAsTold(d, tolerance)
	checkMade(t, fmt.Sprint("CleanDrawing", d, tolerance), clean, code, want, wantCode)
	checkNear(t, d, tolerance)
	if code != impl.OK {
		return false
	}
	if !impl.IsClean(clean) || !isCleanAsTold(clean) {
		t.Fatalf("CleanDrawing(%v, %d) is %v, which is not clean", d, tolerance, clean)
	}
	again, code := impl.CleanDrawing(clean, 0)
	checkMade(t, fmt.Sprint("CleanDrawing", clean, 0), again, code, clean, impl.OK)
	for f := range d.Faces {
		checkBorder(t, d, clean, f, tolerance)
	}
	return true
}

// checkNear is the second half of promise 7 for the two functions that move points.
func checkNear(t *testing.T, d impl.Drawing, tolerance int64) {
	t.Helper()
	if e, code := impl.SnapDrawing(d, tolerance); code == impl.OK {
		for k, p := range d.Points {
			if q := e.Points[k]; magnitudeOf(p.X-q.X) > tolerance || magnitudeOf(p.Y-q.Y) > tolerance {
				t.Fatalf("SnapDrawing(%v, %d) moves %v to %v", d, tolerance, p, q)
			}
		}
	}
	if e, code := impl.MergePoints(d, tolerance); code == impl.OK {
		for _, p := range d.Points {
			if !slices.ContainsFunc(e.Points, func(q impl.Point) bool { return areNear(p, q, tolerance) }) {
				t.Fatalf("MergePoints(%v, %d) leaves no point near to %v", d, tolerance, p)
			}
		}
		for _, q := range e.Points {
			if !slices.Contains(d.Points, q) {
				t.Fatalf("MergePoints(%v, %d) has the new point %v", d, tolerance, q)
			}
		}
	}
}

// checkBorder compares the points of a face before and after cleaning. The points that are left have only been snapped; one that has joined another is away from its old place by less than the root of 2, and 1, times the tolerance, and one more.
func checkBorder(t *testing.T, before, after impl.Drawing, face int, tolerance int64) {
	t.Helper()
	p, q := polygonOf(before, face), polygonOf(after, face)
	for _, corner := range q {
		isOld := func(b impl.Point) bool {
			return magnitudeOf(b.X-corner.X) <= tolerance && magnitudeOf(b.Y-corner.Y) <= tolerance
		}
		if !slices.ContainsFunc(before.Points, isOld) {
			t.Fatalf("%v, cleaned with the tolerance %d, has a corner %v far from all points", before, tolerance, corner)
		}
	}
	for _, corner := range p {
		gap := distanceAsTold(corner, q[0])
		for k := range q {
			gap = min(gap, impl.DistanceToSegment(q[k], q[(k+1)%len(q)], corner))
		}
		if place, _ := impl.Inside(q, corner); gap > tolerance*2415/1000+1 || tolerance == 0 && place != 0 {
			t.Fatalf("%v, cleaned with the tolerance %d, has the corner %v of the face %d at the distance %d", before, tolerance, corner, face, gap)
		}
	}
	if tolerance == 0 && fanArea(p) != fanArea(q) {
		t.Fatalf("%v, cleaned without a tolerance, has another area of the face %d", before, face)
	}
}

var tolerances = []int64{0, 1, 2, 3, 5, 10, 40, 200}

// loosened gives each face points of its own, up to by away from the old ones.
func loosened(d impl.Drawing, by int64, seed int) impl.Drawing {
	return changed(d, func(e *impl.Drawing) {
		e.Points = nil
		for f := range e.Faces {
			for n, k := range d.Faces[f].Ring {
				seed = (seed*75 + 74) % 65537
				p := pt(d.Points[k].X+int64(seed)%(2*by+1)-by, d.Points[k].Y+int64(seed)/256%(2*by+1)-by)
				p = pt(min(max(p.X, 0), d.Width), min(max(p.Y, 0), d.Height))
				place := slices.Index(e.Points, p)
				if place < 0 {
					place = len(e.Points)
					e.Points = append(e.Points, p)
				}
				e.Faces[f].Ring[n] = int64(place)
			}
		}
	})
}

// studded puts new points into some edges, each into one Ring only.
func studded(d impl.Drawing, seed int) impl.Drawing {
	return changed(d, func(e *impl.Drawing) {
		for f := range e.Faces {
			for n := len(e.Faces[f].Ring) - 1; n >= 0; n-- {
				ring := e.Faces[f].Ring
				a, b := e.Points[ring[n]], e.Points[ring[(n+1)%len(ring)]]
				parts := gcd(magnitudeOf(b.X-a.X), magnitudeOf(b.Y-a.Y))
				seed = (seed*75 + 74) % 65537
				p := pt(a.X+(b.X-a.X)/parts*(int64(seed)%parts), a.Y+(b.Y-a.Y)/parts*(int64(seed)%parts))
				if seed%3 == 0 && len(e.Points) < impl.MaxPoints && !slices.Contains(e.Points, p) {
					e.Faces[f].Ring = slices.Insert(ring, n+1, int64(len(e.Points)))
					e.Points = append(e.Points, p)
				}
			}
		}
	})
}

// messyDrawings are valid, but most of them are far from clean.
func messyDrawings() []impl.Drawing {
	var all []impl.Drawing
	add := func(d impl.Drawing) {
		if impl.ValidDrawing(d) {
			all = append(all, d)
		}
	}
	for seed := range 12 {
		for _, size := range [][2]int{{1, 1}, {2, 1}, {3, 2}, {3, 3}, {4, 3}} {
			d := mesh(size[0], size[1], 300)
			for _, by := range []int64{1, 2, 4, 20} {
				add(loosened(d, by, seed))
				add(renumbered(loosened(d, by, seed+1), seed))
			}
			add(studded(d, seed))
			add(renumbered(studded(d, seed), seed))
			add(renumbered(loosened(studded(d, seed), 2, seed), seed))
		}
		for _, text := range coverTexts {
			add(studded(draw(text), seed))
			add(renumbered(studded(draw(text), seed+1), seed))
		}
	}
	// Far from the border, near points are joined and not snapped.
	for k, p := range goodPolygons() {
		d := drawingOf(moved(p, 300, 300))
		d.Width, d.Height = d.Width+300, d.Height+300
		add(renumbered(d, k))
	}
	return all
}

func TestCleaningIsAsTold(t *testing.T) {
	cleaned := map[int64]int{}
	for _, d := range append(goodDrawings(), messyDrawings()...) {
		checkSteps(t, d)
		for _, tolerance := range tolerances {
			if checkCleaning(t, d, tolerance) {
				cleaned[tolerance]++
			}
		}
	}
	if cleaned[0] < 800 || cleaned[2] < 500 || cleaned[10] < 150 || cleaned[200] < 30 {
		t.Errorf("numbers of drawings that are cleaned, by their tolerances: %v", cleaned)
	}
}

// TestCleaningOfSmallPolygonsIsAsTold has pairs of polygons at 1, 4 and 7 on a panel of 10 times 10, so that the least tolerances are enough to move and to join points.
func TestCleaningOfSmallPolygonsIsAsTold(t *testing.T) {
	onPanel := func(p []impl.Point) []impl.Point {
		q := slices.Clone(p)
		for k := range q {
			q[k] = pt(1+3*q[k].X, 1+3*q[k].Y)
		}
		return q
	}
	cleaned, n := map[int64]int{}, int64(0)
	forGridPairs(40, func(a, b gridPolygon, _ bool) {
		if n++; n%3 == 0 {
			checkSteps(t, gridDrawing(a, b))
		} else if checkCleaning(t, drawingOf(onPanel(a.points), onPanel(b.points)), n%5) {
			cleaned[n%5]++
		}
	})
	if cleaned[0] < 1000 || cleaned[1] < 1000 || cleaned[3] < 200 || cleaned[4] < 1 {
		t.Errorf("numbers of drawings that are cleaned, by their tolerances: %v", cleaned)
	}
}

// TestCleaningKeepsCovers cleans without a tolerance: the faces cover the panel as before.
func TestCleaningKeepsCovers(t *testing.T) {
	for seed, d := range covers() {
		for _, e := range []impl.Drawing{d, studded(d, seed), studded(studded(d, seed+1), seed+2)} {
			clean, code := impl.CleanDrawing(e, 0)
			if !impl.ValidDrawing(e) || code == impl.ErrState {
				continue
			}
			if !impl.CoversPanel(clean) || code != impl.OK {
				t.Fatalf("%v is cleaned to %v, %d", e, clean, code)
			}
		}
	}
}

// TestLoosenedMeshesAreMended has faces that only nearly meet. Their near points are joined first: at the border, they would become equal.
func TestLoosenedMeshesAreMended(t *testing.T) {
	mended := 0
	for seed := range 20 {
		for _, size := range [][2]int{{1, 1}, {2, 1}, {2, 2}, {3, 2}, {4, 2}, {3, 3}} {
			d := loosened(mesh(size[0], size[1], 300), 3, seed)
			if len(d.Points) > impl.MaxPoints {
				continue
			}
			merged, code := impl.MergePoints(d, 8)
			clean, cleanCode := impl.CleanDrawing(merged, 8)
			if want := (size[0] + 1) * (size[1] + 1); !impl.CoversPanel(clean) || len(clean.Points) != want || code != impl.OK || cleanCode != impl.OK {
				t.Fatalf("%v is merged to %v, %d, and cleaned to %v, %d", d, merged, code, clean, cleanCode)
			}
			mended++
		}
	}
	if mended < 50 {
		t.Errorf("only %d drawings are mended", mended)
	}
}
