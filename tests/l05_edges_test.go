package tests

import (
	"fmt"
	"slices"
	"testing"

	"loop.example/g00956/impl"
)

// hasEdge tells whether two points follow one another in the Ring of a face.
func hasEdge(face impl.Face, i, k int64) bool {
	n := len(face.Ring)
	for place, from := range face.Ring {
		to := face.Ring[(place+1)%n]
		if from == i && to == k || from == k && to == i {
			return true
		}
	}
	return false
}

// edgesAsTold goes through all pairs of points in their order.
func edgesAsTold(d impl.Drawing) [][]int64 {
	var edges [][]int64
	for i := range int64(len(d.Points)) {
		for k := range int64(len(d.Points)) {
			if i < k && len(facesAsTold(d, i, k)) > 0 {
				edges = append(edges, []int64{i, k})
			}
		}
	}
	return edges
}

func facesAsTold(d impl.Drawing, i, k int64) []int64 {
	var faces []int64
	for f, face := range d.Faces {
		if hasEdge(face, i, k) {
			faces = append(faces, int64(f))
		}
	}
	return faces
}

func neighboursAsTold(d impl.Drawing, face int) []int64 {
	var near []int64
	for other := range d.Faces {
		met := false
		for i := range int64(len(d.Points)) {
			for k := range i {
				met = met || hasEdge(d.Faces[face], i, k) && hasEdge(d.Faces[other], i, k)
			}
		}
		if met && other != face {
			near = append(near, int64(other))
		}
	}
	return near
}

func checkList(t *testing.T, what string, got any, code int64, want any) {
	t.Helper()
	if fmt.Sprint(got) != fmt.Sprint(want) || code != impl.OK {
		t.Errorf("%s is %v, %d, want %v", what, got, code, want)
	}
}

func TestEdgesOf(t *testing.T) {
	for _, c := range []struct{ text, want string }{
		{"20x10;0,0 20,0 20,10 0,10;a 0,1,2;b 0,2,3", "[[0 1] [0 2] [0 3] [1 2] [2 3]]"}, {"10x10;", "[]"}, {"10x10;0,0 10,0 10,10 0,10", "[]"},
		// The last point is followed by the first one, wherever a Ring begins.
		{"10x10;0,0 10,0 10,10;a 0,1,2", "[[0 1] [0 2] [1 2]]"}, {"10x10;0,0 10,0 10,10;a 1,2,0", "[[0 1] [0 2] [1 2]]"}, {"10x10;0,0 10,0 10,10;a 2,0,1", "[[0 1] [0 2] [1 2]]"},
		{"10x10;10,10 10,0 0,0 5,5 0,10;a 2,1,0", "[[0 1] [0 2] [1 2]]"}, {"10x10;5,5 0,0 10,0 5,6 10,10 0,10;a 1,2,4,5", "[[1 2] [1 5] [2 4] [4 5]]"},
		// Faces with an edge in opposite directions, in the same one, and in both.
		{"20x10;0,0 20,0 20,10 0,10;a 0,1,2;b 0,1,2,3", "[[0 1] [0 2] [0 3] [1 2] [2 3]]"}, {"20x10;0,0 20,0 20,10 0,10;a 0,1,2;b 2,0,1", "[[0 1] [0 2] [1 2]]"},
		// A point on an edge divides it only for the face that has this point.
		{"20x20;0,0 10,0 10,10 0,10 10,5 20,5;a 0,1,2,3;b 1,5,4;c 4,5,2", "[[0 1] [0 3] [1 2] [1 4] [1 5] [2 3] [2 4] [2 5] [4 5]]"},
	} {
		edges, code := impl.EdgesOf(draw(c.text))
		checkList(t, "EdgesOf "+c.text, edges, code, c.want)
	}
	for _, d := range goodDrawings() {
		edges, code := impl.EdgesOf(d)
		checkList(t, fmt.Sprint("EdgesOf ", d), edges, code, edgesAsTold(d))
	}
}

// TestEdgesAreInOrder has more points than one digit counts, so that an order of texts would show.
func TestEdgesAreInOrder(t *testing.T) {
	for by := range impl.MaxPoints {
		edges, code := impl.EdgesOf(renumbered(fullMesh(), by))
		if !slices.IsSortedFunc(edges, slices.Compare) || len(edges) != 12*3+13*2+9 || code != impl.OK {
			t.Fatalf("%d edges: %v, %d", len(edges), edges, code)
		}
	}
}

// fan has four faces with the edge from 0 to 3, in both directions, and one with other points only.
const fan = "40x20;0,10 20,0 20,20 40,10 30,4 5,0 9,0 9,1;a 0,1,3;b 3,2,0;c 0,4,3;d 5,6,7;e 1,3,0"

func TestFacesOfEdge(t *testing.T) {
	for _, c := range []struct {
		text string
		i, k int64
		want string
	}{
		{"20x10;0,0 20,0 20,10 0,10;a 0,1,2;b 0,2,3", 0, 2, "[0 1]"}, {"20x10;0,0 20,0 20,10 0,10;a 0,1,2;b 0,2,3", 0, 1, "[0]"}, {"20x10;0,0 20,0 20,10 0,10;a 0,1,2;b 0,2,3", 0, 3, "[1]"}, {"20x10;0,0 20,0 20,10 0,10;a 0,1,2;b 0,2,3", 2, 3, "[1]"},
		{"20x10;0,0 20,0 20,10 0,10;a 0,1,2;b 0,2,3", 1, 3, "[]"}, {fan, 0, 3, "[0 1 2 4]"}, {fan, 0, 1, "[0 4]"}, {fan, 1, 3, "[0 4]"}, {fan, 2, 3, "[1]"}, {fan, 4, 3, "[2]"}, {fan, 5, 7, "[3]"}, {fan, 1, 2, "[]"}, {fan, 1, 4, "[]"}, {fan, 0, 7, "[]"},
		// A point that lies on an edge has none with its ends.
		{"20x20;0,0 10,0 10,10 0,10 10,5 20,5;a 0,1,2,3;b 1,5,4", 1, 2, "[0]"}, {"20x20;0,0 10,0 10,10 0,10 10,5 20,5;a 0,1,2,3;b 1,5,4", 1, 4, "[1]"}, {"20x20;0,0 10,0 10,10 0,10 10,5 20,5;a 0,1,2,3;b 1,5,4", 2, 4, "[]"},
		{"10x10;0,0 10,0 10,10 0,10", 0, 1, "[]"}, {"10x10;5,5", 0, 0, "[]"},
	} {
		for _, pair := range [][2]int64{{c.i, c.k}, {c.k, c.i}} {
			faces, code := impl.FacesOfEdge(draw(c.text), pair[0], pair[1])
			checkList(t, fmt.Sprint("FacesOfEdge ", c.text, pair), faces, code, c.want)
		}
	}
	all, _ := impl.FacesOfEdge(crowd(impl.MaxFaces), 3, 0)
	for k := range int64(impl.MaxFaces) {
		if len(all) != impl.MaxFaces || all[k] != k {
			t.Fatalf("all faces have an edge, but %v are told", all)
		}
	}
}

func TestAllFacesOfEdges(t *testing.T) {
	for _, d := range goodDrawings() {
		n := int64(len(d.Points))
		for i := range n {
			for k := range n {
				faces, code := impl.FacesOfEdge(d, i, k)
				if i == k && len(faces) > 0 {
					t.Fatalf("FacesOfEdge(%v, %d, %d) is %v", d, i, k, faces)
				}
				checkList(t, fmt.Sprint("FacesOfEdge ", d, i, k), faces, code, facesAsTold(d, i, k))
			}
		}
		for _, k := range noIndices(len(d.Points)) {
			for _, pair := range [][2]int64{{k, 0}, {0, k}, {k, n - 1}, {n - 1, k}, {k, k}, {k, -1}, {n, k}} {
				if faces, code := impl.FacesOfEdge(d, pair[0], pair[1]); len(faces) != 0 || code != impl.ErrRange {
					t.Fatalf("FacesOfEdge(%v, %d, %d) is %v, %d", d, pair[0], pair[1], faces, code)
				}
			}
		}
	}
}

func TestNeighboursOf(t *testing.T) {
	for _, c := range []struct{ text, want string }{
		{"20x10;0,0 20,0 20,10 0,10;a 0,1,2;b 0,2,3", "[1] [0]"}, {"10x10;0,0 10,0 10,10;a 0,1,2", "[]"}, {fan, "[1 2 4] [0 2 4] [0 1 4] [] [0 1 2]"},
		// At a point only, and along a part of an edge only.
		{"20x20;0,0 10,0 10,10 0,10 20,10 20,20 10,20;a 0,1,2,3;b 2,4,5,6", "[] []"}, {"20x20;0,0 10,0 10,10 0,10 10,5 20,5 20,15 10,15;a 0,1,2,3;b 4,5,6,7", "[] []"},
		{"20x20;0,0 10,0 10,10 0,10 20,5 20,15;a 0,1,2,3;b 2,4,5", "[] []"}, {"20x20;0,0 10,0 10,10 0,10 10,5 20,5 20,15;a 0,1,2,3;b 4,5,6", "[] []"}, {"20x20;0,0 10,0 10,10 0,10 10,5 20,5 20,10;a 0,1,2,3;b 4,5,6,2", "[] []"},
		// The ends of a part of an edge are points of both, but in one of them another one lies between them.
		{"20x20;0,0 10,0 10,10 0,10 10,5 20,5;a 0,1,2,3;b 1,5,2;c 1,5,2,4", "[1] [0 2] [1]"},
		// Several edges in common, and all of them.
		{"20x20;0,0 20,0 20,20 10,10 0,20;a 0,1,2,3,4;b 4,3,2", "[1] [0]"}, {"20x10;0,0 20,0 20,10 0,10;a 0,1,2;b 1,2,0;c 2,3,0", "[1 2] [0 2] [0 1]"}, {"20x10;0,0 20,0 20,10 0,10;a 0,1,2,3;b 1,2,3,0", "[1] [0]"},
		// Over each other without an edge in common.
		{"30x30;0,0 30,0 30,30 0,30 10,10 20,10 20,20;a 4,5,6;b 0,1,2,3", "[] []"}, {"20x10;0,0 20,0 20,10 0,10;a 0,1,2;b 1,3,0", "[1] [0]"},
	} {
		d := draw(c.text)
		want := ""
		for k := range d.Faces {
			near, code := impl.NeighboursOf(d, int64(k))
			if code != impl.OK {
				t.Errorf("NeighboursOf(%s, %d) returns the code %d", c.text, k, code)
			}
			want += fmt.Sprint(" ", near)
		}
		if want[1:] != c.want {
			t.Errorf("the neighbours of %s are%s, want %s", c.text, want, c.want)
		}
	}
}

func TestAllNeighbours(t *testing.T) {
	for _, d := range goodDrawings() {
		for k := range d.Faces {
			near, code := impl.NeighboursOf(d, int64(k))
			checkList(t, fmt.Sprint("NeighboursOf ", d, k), near, code, neighboursAsTold(d, k))
		}
		for _, k := range noIndices(len(d.Faces)) {
			if near, code := impl.NeighboursOf(d, k); len(near) != 0 || code != impl.ErrRange {
				t.Fatalf("NeighboursOf(%v, %d) is %v, %d", d, k, near, code)
			}
		}
	}
}

// TestNeighboursAreMutual compares the three functions of edges with one another.
func TestNeighboursAreMutual(t *testing.T) {
	for _, d := range goodDrawings() {
		edges, _ := impl.EdgesOf(d)
		pairs := map[[2]int64]bool{}
		for _, edge := range edges {
			faces, _ := impl.FacesOfEdge(d, edge[1], edge[0])
			for _, a := range faces {
				for _, b := range faces {
					pairs[[2]int64{a, b}] = a != b
				}
			}
		}
		for a := range int64(len(d.Faces)) {
			near, _ := impl.NeighboursOf(d, a)
			for b := range int64(len(d.Faces)) {
				if slices.Contains(near, b) != pairs[[2]int64{a, b}] {
					t.Fatalf("the neighbours of %d in %v are %v", a, d, near)
				}
			}
		}
	}
}
