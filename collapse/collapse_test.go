package collapse_test

import (
	"math"
	"slices"
	"testing"

	"lithophane/api"
	"lithophane/mesh"
)

// P11.1, document's example: nothing is left of a triangle.
func TestP11_1OneTriangle(t *testing.T) {
	a, b, c, d := at(0, 0, 0), at(5, 0, 0), at(0, 7, 1), at(-3, -3, -3)
	for _, l := range [][]api.Tri{tris(a, b, c), tris(c, a, b), tris(b, a, c)} {
		for _, u := range []api.Point{a, b, c} {
			for _, v := range []api.Point{a, b, c} {
				var want []api.Tri
				if u == v {
					want = mesh.Canon(l)
				}
				checkCollapse(t, l, u, v, want)
			}
		}
	}
	checkCollapse(t, tris(a, b, c), a, d, tris(d, b, c))
	checkCollapse(t, tris(a, b, c), b, d, tris(d, c, a))
	checkCollapse(t, tris(a, b, c), c, d, tris(d, a, b))
	checkCollapse(t, tris(a, b, c), d, a, tris(a, b, c))
}

// P11.1: empty lists.
func TestP11_1Empty(t *testing.T) {
	for _, l := range [][]api.Tri{nil, {}} {
		checkCollapse(t, l, at(0, 0, 0), at(1, 0, 0), nil)
		checkCollapse(t, l, at(0, 0, 0), at(0, 0, 0), nil)
	}
}

// P11.1: the octahedron: an edge, opposite corners, and a corner elsewhere.
func TestP11_1Octahedron(t *testing.T) {
	l := octahedron(1)
	px, nx, py, ny, pz, nz := at(1, 0, 0), at(-1, 0, 0), at(0, 1, 0), at(0, -1, 0), at(0, 0, 1), at(0, 0, -1)
	rest := tris(nx, ny, pz, nx, nz, ny, nx, py, nz, nx, pz, py)
	checkCollapse(t, l, px, py, mesh.Canon(append(tris(ny, nz, py, ny, py, pz), rest...)))
	checkCollapse(t, l, px, nx, mesh.Canon(append(tris(nx, ny, nz, nx, pz, ny, nx, nz, py, nx, py, pz), rest...)))
	o := at(0, 0, 0)
	checkCollapse(t, l, px, o, mesh.Canon(append(tris(o, ny, nz, o, pz, ny, o, nz, py, o, py, pz), rest...)))
}

// P11.1: u that is no corner, or is v: the canonical list, without triangles with equal
// corners.
func TestP11_1NothingMoved(t *testing.T) {
	a, b := at(1, 2, 3), at(3, 2, 1)
	for _, l := range [][]api.Tri{octahedron(3), tent(), append(octahedron(3), octahedron(3)...), twins()} {
		for _, u := range []api.Point{at(77, 7, 7), at(3, 0, 1), at(0, 3, 1), at(1, 0, 3), at(math.MinInt, 0, 0)} {
			checkCollapse(t, l, u, l[0][0], mesh.Canon(l))
			checkCollapse(t, append(tris(a, b, b, a, a, a), l...), u, a, mesh.Canon(l))
		}
		for _, p := range append(mesh.Corners(l), at(77, 7, 7)) {
			checkCollapse(t, l, p, p, mesh.Canon(l))
			checkCollapse(t, append(tris(p, p, b, a, b, a), l...), p, p, mesh.Canon(l))
		}
	}
}

// P11.1: triangles with both u and v go, as do those with equal corners, whether these
// are moved or not.
func TestP11_1Gone(t *testing.T) {
	u, v, a, b := at(9, 9, 9), at(-4, 0, 2), at(0, 0, 1), at(3, 3, 0)
	for _, x := range []api.Tri{{u, v, a}, {v, u, a}, {a, u, v}, {a, v, u}, {u, a, v}, {v, a, u}, {u, u, a}, {u, a, u}, {a, u, u}, {u, u, u}, {v, v, a}, {a, a, b}, {b, b, b}, {v, u, u}, {v, v, u}} {
		checkCollapse(t, []api.Tri{x}, u, v, nil)
		checkCollapse(t, []api.Tri{x, {b, u, a}, x}, u, v, tris(v, a, b))
		checkCollapse(t, []api.Tri{{u, b, a}, x, x, {a, b, at(5, 5, 5)}}, u, v, tris(v, b, a, a, b, at(5, 5, 5)))
	}
}

// P11.1: triangles that become the same, or are the same before, stay.
func TestP11_1Same(t *testing.T) {
	u, v, a, b := at(9, 9, 9), at(-4, 0, 2), at(0, 0, 1), at(3, 3, 0)
	checkCollapse(t, tris(u, a, b, v, a, b), u, v, tris(v, a, b, v, a, b))
	checkCollapse(t, tris(a, b, v, b, u, a, a, b, u), u, v, tris(v, a, b, v, a, b, v, a, b))
	checkCollapse(t, tris(u, a, b, v, b, a), u, v, tris(v, a, b, v, b, a))
	checkCollapse(t, tris(a, b, at(1, 1, 1), at(1, 1, 1), a, b), u, v, tris(a, b, at(1, 1, 1), a, b, at(1, 1, 1)))
}

// P11.1: the result is canonical, in whatever order the triangles are.
func TestP11_1Canonical(t *testing.T) {
	forShapes(11, 6, func(g *generator, name string, l []api.Tri) {
		if len(l) == 0 {
			return
		}
		u, v := pick(g, l)[g.below(3)], pick(g, l)[g.below(3)]
		want := refCollapse(l, u, v)
		if !slices.Equal(want, mesh.Canon(want)) {
			t.Fatalf("%s: not canonical", brief(want))
		}
		for range 3 {
			checkCollapse(t, g.shuffled(l), u, v, want)
		}
	})
}

// P11.1: arbitrary lists, also such as no surface is made of, without asking whether the
// collapse is allowed.
func TestP11_1Any(t *testing.T) {
	g := generator(12)
	gone, moved := 0, 0
	for _, space := range spaces() {
		for range 300 {
			var corners []api.Point
			for range 4 + g.below(3) {
				corners = append(corners, at(pick(&g, space), pick(&g, space), pick(&g, space)))
			}
			var l []api.Tri
			for range g.below(9) {
				l = append(l, api.Tri{pick(&g, corners), pick(&g, corners), pick(&g, corners)})
			}
			u, v := pick(&g, corners), pick(&g, corners)
			want := refCollapse(l, u, v)
			checkCollapse(t, l, u, v, want)
			gone += len(l) - len(want)
			for _, tri := range want {
				if refHas(tri, v) {
					moved++
				}
			}
		}
	}
	if gone < 1000 || moved < 1000 {
		t.Errorf("%d are gone, %d have the corner", gone, moved)
	}
}
