package seal_test

import (
	"slices"
	"testing"

	"lithophane/api"
	"lithophane/grid"
	"lithophane/mesh"
	"lithophane/seal"
)

// corner returns a point near the vertex: in the middle of a cell beside it.
func corner(v vertex, level int) api.Point {
	h := 1 << (api.CoordBits - level)
	return api.Point{X: v[0]*h + h/2, Y: v[1]*h + h/2, Z: v[2]*h + h/2}
}

// box returns the surface around the vertices behind low, up to high.
func box(low, high vertex, level int) []api.Tri {
	at := func(bits int) api.Point {
		v := low
		for axis := range 3 {
			if bits>>axis&1 == 1 {
				v[axis] = high[axis]
			}
		}
		return corner(v, level)
	}
	var l []api.Tri
	for axis := range 3 {
		u, w := 1<<((axis+1)%3), 1<<((axis+2)%3)
		for _, s := range [][4]int{{0, w, u | w, u}, {1 << axis, 1<<axis | u, 1<<axis | u | w, 1<<axis | w}} {
			l = append(l, api.Tri{at(s[0]), at(s[1]), at(s[2])}, api.Tri{at(s[0]), at(s[2]), at(s[3])})
		}
	}
	return l
}

// octahedron returns a closed surface with any corners; it may pass through itself.
func (g *generator) octahedron() []api.Tri {
	for {
		var p [6]api.Point
		for i := range p {
			p[i] = api.Point{X: g.below(api.MaxCoord + 1), Y: g.below(api.MaxCoord + 1), Z: g.below(api.MaxCoord + 1)}
		}
		var l []api.Tri
		for i := range 4 {
			j := (i + 1) % 4
			l = append(l, api.Tri{p[4], p[i], p[j]}, api.Tri{p[5], p[j], p[i]})
		}
		if mesh.Check(l) == api.OK {
			return l
		}
	}
}

// P7.3, P7.5: boxes enclose the vertices that are inside of them; there are no odd faces.
func TestP7_3Boxes(t *testing.T) {
	g := generator(733)
	for _, level := range []int{1, 2, 3, 4, 5} {
		n := cells(level)
		for range 20 {
			low := vertex{g.below(n - 1), g.below(n - 1), g.below(n - 1)}
			high := vertex{low[0] + 1 + g.below(n-1-low[0]), low[1] + 1 + g.below(n-1-low[1]), low[2] + 1 + g.below(n-1-low[2])}
			want := fieldOf(level, func(v vertex) bool {
				return low[0] < v[0] && v[0] <= high[0] && low[1] < v[1] && v[1] <= high[1] && low[2] < v[2] && v[2] <= high[2]
			})
			checkSeal(t, grid.Cross(box(low, high, level), level), level, want, nil)
		}
	}
}

// P7.3, P7.5: closed surfaces cross exactly the edges whose ends differ in the field.
func TestP7_3ClosedSurfaces(t *testing.T) {
	g := generator(734)
	inside := 0
	for _, level := range []int{1, 2, 3, 4, 6} {
		for range 15 {
			edges := grid.Cross(append(g.octahedron(), g.octahedron()...), level)
			field, patches := seal.Seal(edges, level)
			inside += len(insideOf(field))
			if got := outwards(field); len(patches) > 0 || !sameEdges(got, edges) {
				t.Fatalf("Seal of %s, level %d: patches %v; edges %s", brief(edges), level, patches, brief(got))
			}
			checkOdd(t, edges, level, nil)
		}
	}
	if inside < 1000 {
		t.Errorf("inside vertices: %d", inside)
	}
}

// sameEdges reports whether two lists differ in their order alone.
func sameEdges(l, m []api.Edge) bool {
	return slices.Equal(slices.SortedFunc(slices.Values(l), compareEdges), slices.SortedFunc(slices.Values(m), compareEdges))
}

// P7.2, P7.3: surfaces of which triangles are taken away are closed as the reference
// closes them.
func TestP7_2OpenSurfaces(t *testing.T) {
	g := generator(725)
	patches, inside := 0, 0
	for _, level := range []int{1, 2, 3, 4} {
		for range 25 {
			l := shuffled(&g, append(g.octahedron(), g.octahedron()...))
			s := check(t, grid.Cross(l[1+g.below(4):], level), level)
			patches += len(s.patches)
			inside += len(insideOf(s.field))
		}
	}
	if min(patches, inside) < 100 {
		t.Errorf("patches %d, inside vertices %d", patches, inside)
	}
}

// P7.5: a hole where a triangle is missing is closed: the triangle crosses one edge.
func TestP7_5MissingTriangle(t *testing.T) {
	for level := 1; level <= 6; level++ {
		n := cells(level)
		v := vertex{n / 2, n / 2, n / 2}
		l := box(v.plus(0, -1).plus(1, -1).plus(2, -1), v, level)
		want, _ := seal.Seal(grid.Cross(l, level), level)
		if !slices.Equal(insideOf(want), []int{(v[2]*(n+1)+v[1])*(n+1) + v[0]}) {
			t.Fatalf("level %d: inside %v", level, insideOf(want))
		}
		closed := grid.Cross(l, level)
		for i := range l {
			open := grid.Cross(slices.Delete(slices.Clone(l), i, i+1), level)
			var patches []api.Patch
			for _, e := range closed {
				if !slices.Contains(open, e) {
					patches = append(patches, onePatch(e))
				}
			}
			checkSeal(t, open, level, want, patches)
		}
	}
}

// P7.5: a cube of which a side is missing is restored.
func TestP7_5MissingSide(t *testing.T) {
	for side := range 6 {
		l := box(vertex{2, 2, 2}, vertex{5, 5, 5}, 3)
		want, _ := seal.Seal(grid.Cross(l, 3), 3)
		open := slices.Delete(l, 2*side, 2*side+2)
		_, patches := seal.Seal(grid.Cross(open, 3), 3)
		if len(insideOf(want)) != 27 || len(patches) != 1 || patches[0].Edges != 9 {
			t.Errorf("without the side %d: %d inside vertices, patches %+v", side, len(insideOf(want)), patches)
		}
		checkSeal(t, grid.Cross(open, 3), 3, want, patches)
	}
}
