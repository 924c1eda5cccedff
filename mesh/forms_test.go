package mesh_test

import (
	"math"
	"slices"
	"testing"

	"lithophane/api"
	"lithophane/mesh"
)

// P4.1: the least corner comes to the front, wherever it is; X decides before Y, and Y before Z.
func TestP4_1Rotate(t *testing.T) {
	for _, c := range []struct{ t, want api.Tri }{
		{api.Tri{z, y, o}, api.Tri{o, z, y}}, {api.Tri{o, z, y}, api.Tri{o, z, y}}, {api.Tri{y, o, z}, api.Tri{o, z, y}},
		{api.Tri{z, o, y}, api.Tri{o, y, z}}, {api.Tri{x, y, z}, api.Tri{z, x, y}}, {api.Tri{x, z, y}, api.Tri{z, y, x}},
		{api.Tri{at(2, 0, 0), at(1, 9, 9), at(1, 9, 8)}, api.Tri{at(1, 9, 8), at(2, 0, 0), at(1, 9, 9)}},
		{api.Tri{at(math.MaxInt, 0, 0), at(math.MinInt, 0, 0), o}, api.Tri{at(math.MinInt, 0, 0), o, at(math.MaxInt, 0, 0)}},
		{api.Tri{at(-1, 0, 0), at(-2, 5, 5), at(0, -9, 0)}, api.Tri{at(-2, 5, 5), at(0, -9, 0), at(-1, 0, 0)}},
	} {
		if got := mesh.Rotate(c.t); got != c.want {
			t.Errorf("Rotate(%v): %v, want %v", c.t, got, c.want)
		}
	}
}

// P4.1: of equal least corners, the first one comes to the front; equal corners that are not the least do not matter.
func TestP4_1RotateEqualCorners(t *testing.T) {
	for _, c := range []struct{ t, want api.Tri }{
		{api.Tri{o, o, z}, api.Tri{o, o, z}}, {api.Tri{o, z, o}, api.Tri{o, z, o}}, {api.Tri{z, o, o}, api.Tri{o, o, z}},
		{api.Tri{o, z, z}, api.Tri{o, z, z}}, {api.Tri{z, o, z}, api.Tri{o, z, z}}, {api.Tri{z, z, o}, api.Tri{o, z, z}},
		{api.Tri{z, z, z}, api.Tri{z, z, z}}, {api.Tri{}, api.Tri{}},
	} {
		if got := mesh.Rotate(c.t); got != c.want {
			t.Errorf("Rotate(%v): %v, want %v", c.t, got, c.want)
		}
	}
}

// P4.1: all triangles of few points.
func TestP4_1RotateAll(t *testing.T) {
	for _, points := range spaces() {
		n := len(points)
		for i := range n * n * n {
			tri := api.Tri{points[i%n], points[i/n%n], points[i/n/n]}
			if got := mesh.Rotate(tri); got != refRotate(tri) {
				t.Errorf("Rotate(%v): %v, want %v", tri, got, refRotate(tri))
			}
		}
	}
}

// P4.2: Canon rotates all triangles, and orders them by the first, the second, then the third corners.
func TestP4_2Canon(t *testing.T) {
	for _, c := range []struct{ l, want []api.Tri }{
		{nil, nil}, {[]api.Tri{}, nil}, {tris(z, y, o), tris(o, z, y)},
		{tetrahedron(), tris(o, z, y, o, y, x, o, x, z, z, x, y)},
		{tris(o, x, y, o, x, z, o, y, x, o, z, x), tris(o, z, x, o, y, x, o, x, z, o, x, y)},
		{tris(x, y, z, o, y, x, y, z, x, x, z, y, z, x, y), tris(o, y, x, z, y, x, z, x, y, z, x, y, z, x, y)}, // equal, rotated and turned ones stay
		{tris(z, o, o, o, z, o, o, o, z, o, o, o), tris(o, o, o, o, o, z, o, o, z, o, z, o)},
	} {
		wantsAll(t, "Canon", c.l, mesh.Canon(c.l), c.want)
	}
}

// P4.2: many lists; neither their order nor the first corners matter, unless corners are equal.
func TestP4_2CanonOfMany(t *testing.T) {
	forLists(400, func(g *generator, l []api.Tri) {
		got := mesh.Canon(l)
		wantsAll(t, "Canon", l, got, refCanon(l))
		wantsAll(t, "Canon of Canon", l, mesh.Canon(got), got)
		if !slices.ContainsFunc(l, func(t api.Tri) bool { return t[0] == t[1] || t[1] == t[2] || t[2] == t[0] }) {
			wantsAll(t, "Canon in another order", l, mesh.Canon(g.shuffled(l)), got)
		}
	})
}

// P4.2: Same neglects the order and the first corners, but not the direction, nor how often a triangle is there.
func TestP4_2Same(t *testing.T) {
	abc := tris(x, y, z)
	for _, c := range []struct {
		a, b []api.Tri
		want bool
	}{
		{nil, nil, true}, {nil, []api.Tri{}, true}, {nil, abc, false}, {abc, nil, false},
		{tris(x, y, z, o, y, x), tris(y, x, o, z, x, y), true}, {abc, tris(z, x, y), true}, {abc, tris(x, z, y), false},
		{tetrahedron(), tetrahedron()[:3], false}, {tetrahedron()[1:], tetrahedron(), false},
		{tris(x, y, z, x, y, z), abc, false}, {tris(x, y, z, y, z, x), tris(z, x, y, z, x, y), true},
		{tris(x, y, z, x, y, z, o, y, x), tris(x, y, z, o, y, x, o, y, x), false},
		{tetrahedron(), turned(tetrahedron()), false}, {tetrahedron(), mirrored(tetrahedron()), false},
		{tris(z, o, o), tris(o, o, z), true}, {tris(z, o, o), tris(o, z, o), false}, // their first corners are the first occurrences
	} {
		if got := mesh.Same(c.a, c.b); got != c.want {
			t.Errorf("Same(%v, %v): %v", c.a, c.b, got)
		}
		if got := mesh.Same(c.b, c.a); got != c.want {
			t.Errorf("Same(%v, %v): %v", c.b, c.a, got)
		}
	}
}

// P4.2: Same of pairs of lists that are often nearly the same.
func TestP4_2SameOfMany(t *testing.T) {
	forLists(200, func(g *generator, l []api.Tri) {
		m := g.shuffled(l)
		if len(m) > 0 && g.below(2) == 0 {
			m[g.below(len(m))] = m[g.below(len(m))]
		}
		if got, want := mesh.Same(l, m), slices.Equal(refCanon(l), refCanon(m)); got != want {
			t.Errorf("Same(%v, %v): %v", l, m, got)
		}
	})
}

// P4.3: all corners in order, each once; also those of triangles with equal ones.
func TestP4_3Corners(t *testing.T) {
	lo, hi := math.MinInt, math.MaxInt
	for _, c := range []struct {
		l    []api.Tri
		want []api.Point
	}{
		{nil, nil}, {[]api.Tri{}, nil}, {tetrahedron(), []api.Point{o, z, y, x}}, {append(tetrahedron(), turned(tetrahedron())...), []api.Point{o, z, y, x}},
		{tris(x, x, x, x, x, x), []api.Point{x}}, {tris(x, y, x), []api.Point{y, x}}, {tris(x, x, y, z, z, z, y, x, x), []api.Point{z, y, x}},
		{tris(at(hi, 0, 0), at(lo, 0, 0), at(0, hi, lo), at(0, hi, hi), at(0, lo, hi), o),
			[]api.Point{at(lo, 0, 0), at(0, lo, hi), o, at(0, hi, lo), at(0, hi, hi), at(hi, 0, 0)}},
	} {
		wantsAll(t, "Corners", c.l, mesh.Corners(c.l), c.want)
	}
	forLists(300, func(g *generator, l []api.Tri) {
		wantsAll(t, "Corners", l, mesh.Corners(l), refCorners(l))
	})
}

// P4.4: the edges whose opposite ones do not occur, in their directions, in order, each once.
func TestP4_4Border(t *testing.T) {
	for _, c := range []struct {
		l    []api.Tri
		want [][2]api.Point
	}{
		{nil, nil}, {[]api.Tri{}, nil}, {tetrahedron(), nil}, {tris(x, y, z, x, z, y), nil},
		{tetrahedron()[:3], [][2]api.Point{{z, y}, {y, x}, {x, z}}}, {tris(x, y, z), [][2]api.Point{{z, x}, {y, z}, {x, y}}},
		{tris(x, y, z, z, x, y, x, y, z), [][2]api.Point{{z, x}, {y, z}, {x, y}}},
		{tris(o, x, y, o, x, z), [][2]api.Point{{o, x}, {z, o}, {y, o}, {x, z}, {x, y}}}, // an edge of two triangles
		{tris(o, x, y, o, x, z, x, o, y), [][2]api.Point{{z, o}, {x, z}}},                // the opposite one belongs to one of three
		{tris(o, x, y, x, o, y), nil},
	} {
		wantsAll(t, "Border", c.l, mesh.Border(c.l), c.want)
	}
	forLists(300, func(g *generator, l []api.Tri) {
		wantsAll(t, "Border", l, mesh.Border(l), refBorder(l))
	})
}

// P4.4: an edge between equal corners is its own opposite; two such edges in one triangle are opposite to each other.
func TestP4_4BorderOfEqualCorners(t *testing.T) {
	for _, l := range [][]api.Tri{tris(x, x, x), tris(x, x, y), tris(x, y, x), tris(y, x, x), tris(y, x, x, y, z, y)} {
		wantsAll(t, "Border", l, mesh.Border(l), nil)
	}
	wantsAll(t, "Border", nil, mesh.Border(tris(x, x, x, x, y, z)), [][2]api.Point{{z, x}, {y, z}, {x, y}})
	wantsAll(t, "Border", nil, mesh.Border(tris(x, x, y, x, y, z)), [][2]api.Point{{z, x}, {y, z}})
}
