package tests

import (
	"fmt"
	"slices"
	"testing"

	"loop.example/g00956/impl"
)

// pictureOf gives each face of a drawing a veneer, others for each seed.
func pictureOf(d impl.Drawing, seed int) impl.Picture {
	good := goodVeneers()
	p := impl.Picture{Drawing: d}
	for k := range d.Faces {
		p.Veneers = append(p.Veneers, good[(seed*31+k*(seed%7+3)*11)%len(good)])
	}
	return p
}

// goodPictures are valid.
func goodPictures() []impl.Picture {
	var all []impl.Picture
	for seed, d := range goodDrawings() {
		all = append(all, pictureOf(d, seed))
	}
	for _, text := range neighbourTexts {
		all = append(all, pictureOf(draw(text), len(text)))
	}
	return all
}

// neighbourTexts have faces that touch in all ways.
var neighbourTexts = []string{
	fan,
	// At a point only, and along a part of an edge only, which may have one end in common.
	"20x20;0,0 10,0 10,10 0,10 20,10 20,20 10,20;a 0,1,2,3;b 2,4,5,6", "20x20;0,0 10,0 10,10 0,10 10,5 20,5 20,15 10,15;a 0,1,2,3;b 4,5,6,7", "20x20;0,0 10,0 10,10 0,10 10,5 20,5 20,10;a 0,1,2,3;b 4,5,6,2",
	// The same points, where one of both faces has another one between them.
	"20x20;0,0 10,0 10,10 0,10 10,5 20,5;a 0,1,2,3;b 1,5,2;c 1,5,2,4",
	// Several edges in common, which follow one another or do not, and all of them.
	"20x20;0,0 20,0 20,20 10,10 0,20;a 0,1,2,3,4;b 4,3,2", "30x30;30,30 0,0 30,0 0,30 10,10 20,10 20,30 10,30;a 1,2,0,6,5,4,7,3;b 6,7,4,5", "20x10;0,0 20,0 20,10 0,10;a 0,1,2;b 1,2,0;c 2,3,0", "20x10;0,0 20,0 20,10 0,10;a 0,1,2,3;b 1,2,3,0",
	// Over each other, without an edge in common and with one.
	"30x30;0,0 30,0 30,30 0,30 10,10 20,10 20,20;a 4,5,6;b 0,1,2,3", "20x10;0,0 20,0 20,10 0,10;a 0,1,2;b 1,3,0",
	// A chain, a face in the middle of others, and two groups.
	"40x10;0,0 10,0 20,0 30,0 40,0 40,10 30,10 20,10 10,10 0,10;a 0,1,8,9;b 1,2,7,8;c 2,3,6,7;d 3,4,5,6", "30x30;0,0 30,0 30,30 0,30 10,10 20,10 20,20 10,20;a 0,1,5,4;b 1,2,6,5;c 4,5,6,7;d 2,3,7,6;e 3,0,4,7", "40x10;0,0 10,0 20,0 30,0 40,0 40,10 30,10 20,10 10,10 0,10;a 0,1,8,9;b 3,4,5,6;c 1,2,8;d 3,5,6",
}

func copyOfPicture(p impl.Picture) impl.Picture {
	return impl.Picture{Drawing: copyOf(p.Drawing), Veneers: slices.Clone(p.Veneers)}
}

// repainted returns a copy to which the change is made.
func repainted(p impl.Picture, change func(p *impl.Picture)) impl.Picture {
	p = copyOfPicture(p)
	change(&p)
	return p
}

// samePictures compares without the functions of the program; nil and empty slices are equal.
func samePictures(a, b impl.Picture) bool { return fmt.Sprint(a) == fmt.Sprint(b) }

// forBadPictures calls check with pictures that are not valid for one reason each.
func forBadPictures(check func(reason string, p impl.Picture)) {
	forBadDrawings(func(reason string, d impl.Drawing) { check(reason, pictureOf(d, 5)) })
	bad := badVeneers()
	for seed, text := range slices.Concat(coverTexts, neighbourTexts) {
		p := pictureOf(draw(text), seed)
		for place := range p.Veneers {
			for k, v := range bad {
				if k%41 == (seed+place)%41 || seed == 0 {
					check("a veneer that is not valid", repainted(p, func(p *impl.Picture) { p.Veneers[place] = v }))
				}
			}
		}
		check("one veneer too few", repainted(p, func(p *impl.Picture) { p.Veneers = p.Veneers[1:] }))
		check("one veneer too many", repainted(p, func(p *impl.Picture) { p.Veneers = append(p.Veneers, p.Veneers[0]) }))
		check("twice as many veneers", repainted(p, func(p *impl.Picture) { p.Veneers = append(p.Veneers, p.Veneers...) }))
		check("no veneers", impl.Picture{Drawing: p.Drawing})
		check("no faces", repainted(p, func(p *impl.Picture) { p.Drawing.Faces = nil }))
		check("one face too few", repainted(p, func(p *impl.Picture) { p.Drawing.Faces = p.Drawing.Faces[1:] }))
		check("no drawing", impl.Picture{Veneers: p.Veneers})
	}
	check("a veneer without a face", impl.Picture{Drawing: draw("10x10;"), Veneers: goodVeneers()[:1]})
	check("very many veneers", impl.Picture{Drawing: draw(coverTexts[0]), Veneers: slices.Repeat(goodVeneers(), 100)})
	check("veneers that are not valid", impl.Picture{Drawing: draw(coverTexts[0]), Veneers: make([]impl.Veneer, 2)})
	check("the zero Picture", impl.Picture{})
}

// pairsAsTold are the neighbours in lexicographic order.
func pairsAsTold(d impl.Drawing) [][]int64 {
	var pairs [][]int64
	for i, face := range d.Faces {
		for k := i + 1; k < len(d.Faces); k++ {
			met := false
			for n, from := range face.Ring {
				met = met || hasEdge(d.Faces[k], from, face.Ring[(n+1)%len(face.Ring)])
			}
			if met {
				pairs = append(pairs, []int64{int64(i), int64(k)})
			}
		}
	}
	return pairs
}

func contrastAsTold(v, w impl.Veneer) int64 {
	return magnitudeOf(v.Shade-w.Shade) + angleAsTold(v.Grain, w.Grain)/6
}

func contrastsAsTold(p impl.Picture) [][]int64 {
	var list [][]int64
	for _, pair := range pairsAsTold(p.Drawing) {
		list = append(list, []int64{pair[0], pair[1], contrastAsTold(p.Veneers[pair[0]], p.Veneers[pair[1]])})
	}
	return list
}

// speciesAsTold goes through the species in the order of the table, which is that of the alphabet.
func speciesAsTold(p impl.Picture) []string {
	var names []string
	for _, w := range woods {
		if slices.ContainsFunc(p.Veneers, func(v impl.Veneer) bool { return v.Species == w.name }) {
			names = append(names, w.name)
		}
	}
	return names
}

// shadeAsTold is for pictures with faces.
func shadeAsTold(p impl.Picture) int64 {
	var shades, areas int64
	for k, v := range p.Veneers {
		area := fanArea(polygonOf(p.Drawing, k))
		shades, areas = shades+area*v.Shade, areas+area
	}
	return (shades - shades%areas) / areas
}

// turnedPictureAsTold turns the corners of the panel, too, to see where it begins.
func turnedPictureAsTold(p impl.Picture, turn int64) impl.Picture {
	return repainted(p, func(q *impl.Picture) {
		d := &q.Drawing
		var corner impl.Point
		for _, c := range []impl.Point{pt(d.Width, 0), pt(0, d.Height), pt(d.Width, d.Height)} {
			c = turnedAsTold(c, turn)
			corner = pt(min(corner.X, c.X), min(corner.Y, c.Y))
		}
		for k, point := range d.Points {
			away := turnedAsTold(point, turn)
			d.Points[k] = pt(away.X-corner.X, away.Y-corner.Y)
		}
		if turn%2 == 1 {
			d.Width, d.Height = d.Height, d.Width
		}
		for f := range d.Faces {
			ring := p.Drawing.Faces[f].Ring
			for k := 1; k < len(ring) && turn >= 4; k++ {
				d.Faces[f].Ring[k] = ring[len(ring)-k]
			}
		}
		for k, v := range q.Veneers {
			if turn >= 4 {
				v.Grain = (180 - v.Grain) % 180
			}
			q.Veneers[k].Grain = (v.Grain + turn%2*90) % 180
		}
	})
}

// checkPicture compares what is computed of a valid picture with the words of the document.
func checkPicture(t *testing.T, p impl.Picture) {
	t.Helper()
	list, code := impl.EdgeContrasts(p)
	want := contrastsAsTold(p)
	checkList(t, fmt.Sprint("EdgeContrasts ", p), list, code, want)
	checkWeakest(t, p, want)
	for _, limit := range []int64{0, 1, 15, 16, 30, 50, 99, 114, 115} {
		checkWeak(t, p, want, limit)
	}
	for _, edge := range want {
		checkWeak(t, p, want, edge[2])
		checkWeak(t, p, want, min(115, edge[2]+1))
	}
	species, code := impl.SpeciesUsed(p)
	checkList(t, fmt.Sprint("SpeciesUsed ", p), species, code, speciesAsTold(p))
	shade, code := impl.PictureShade(p)
	if len(p.Veneers) == 0 {
		checkNone(t, fmt.Sprint("PictureShade ", p), int(shade), code, impl.ErrState)
	} else if want := shadeAsTold(p); shade != want || code != impl.OK {
		t.Errorf("PictureShade(%v) is %d, %d, want %d", p, shade, code, want)
	}
}

func checkWeakest(t *testing.T, p impl.Picture, contrasts [][]int64) {
	t.Helper()
	want, wantCode := []int64{0, 0, 0}, int64(impl.ErrState)
	for n, edge := range contrasts {
		if n == 0 || edge[2] < want[2] {
			want, wantCode = edge, impl.OK
		}
	}
	i, k, contrast, code := impl.WeakestPair(p)
	if !slices.Equal([]int64{i, k, contrast}, want) || code != wantCode {
		t.Errorf("WeakestPair(%v) is %d, %d, %d, %d, want %v, %d", p, i, k, contrast, code, want, wantCode)
	}
}

func checkWeak(t *testing.T, p impl.Picture, contrasts [][]int64, limit int64) {
	t.Helper()
	var want [][]int64
	for _, edge := range contrasts {
		if edge[2] < limit {
			want = append(want, edge[:2])
		}
	}
	if pairs, code := impl.WeakPairs(p, limit); !slices.EqualFunc(pairs, want, slices.Equal) || code != impl.OK {
		t.Errorf("WeakPairs(%v, %d) is %v, %d, want %v", p, limit, pairs, code, want)
	}
}

func TestPicturesAreAsTold(t *testing.T) {
	for _, p := range goodPictures() {
		checkPicture(t, p)
	}
	n := 0
	forGridPairs(40, func(a, b gridPolygon, _ bool) {
		if n++; n%3 == 0 {
			checkPicture(t, pictureOf(gridDrawing(a, b), n))
		}
	})
	all := gridPolygons()
	for k := range all {
		checkPicture(t, pictureOf(gridDrawing(all[k], all[k*7%len(all)], all[k*31%len(all)], all[k*k%len(all)]), k))
	}
}
