package mesh_test

import (
	"slices"
	"testing"

	"lithophane/api"
	"lithophane/mesh"
)

// P4.6: neighbours are in the same part; parts are canonical, and ordered by their first triangles.
func TestP4_6Parts(t *testing.T) {
	divides(t, nil)
	divides(t, []api.Tri{})
	divides(t, tetrahedron(), tetrahedron())
	divides(t, tris(z, y, o), tris(o, z, y))
	divides(t, append(tetrahedron(), moved(tetrahedron(), at(9, 0, 0))...), tetrahedron(), moved(tetrahedron(), at(9, 0, 0)))
	divides(t, append(moved(tetrahedron(), at(9, 0, 0)), tetrahedron()...), tetrahedron(), moved(tetrahedron(), at(9, 0, 0)))
	if got := mesh.Parts(tris(x, y, z, x, z, y, at(0, 0, -5), at(9, 9, 9), at(9, 0, 9))); len(got) != 2 || len(got[0]) != 1 || got[1][0] != (api.Tri{z, y, x}) {
		t.Errorf("Parts: %v", got)
	}
}

// P4.6: parts may have a corner in common, or several, or an edge in the same direction.
func TestP4_6Apart(t *testing.T) {
	divides(t, append(tetrahedron(), mirrored(tetrahedron())...), tetrahedron(), mirrored(tetrahedron()))
	divides(t, tris(o, x, y, o, y, z), tris(o, x, y, o, y, z)) // y to o, and o to y
	divides(t, tris(o, x, y, o, z, at(1, 1, 1)), tris(o, x, y), tris(o, z, at(1, 1, 1)))
	divides(t, tris(o, x, y, o, x, z), tris(o, x, y), tris(o, x, z))
	divides(t, tris(o, x, y, o, x, z, z, o, x, o, x, at(5, 5, 5)), tris(o, x, y), tris(o, x, z, o, x, z), tris(o, x, at(5, 5, 5)))
	divides(t, append(tetrahedron(), append(tetrahedron()[:1:1], tetrahedron()...)...), append(tetrahedron(), append(tetrahedron()[:1:1], tetrahedron()...)...))
}

// P4.6: equal triangles are in the same part, also if they are rotated; those turned round are neighbours.
func TestP4_6Equal(t *testing.T) {
	divides(t, tris(x, y, z, x, y, z), tris(x, y, z, x, y, z))
	divides(t, tris(x, y, z, y, z, x, z, x, y), tris(x, y, z, x, y, z, x, y, z))
	divides(t, tris(x, y, z, at(0, 5, 5), at(0, 6, 6), at(0, 7, 8), y, z, x), tris(at(0, 5, 5), at(0, 6, 6), at(0, 7, 8)), tris(x, y, z, x, y, z))
	divides(t, tris(x, y, z, x, z, y), tris(x, y, z, x, z, y))
	divides(t, tris(x, y, z, x, z, y, y, z, x), tris(x, y, z, x, y, z, x, z, y))
}

// P4.6: an edge between equal corners is its own opposite, and makes neighbours.
func TestP4_6EqualCorners(t *testing.T) {
	divides(t, tris(x, x, x), tris(x, x, x))
	divides(t, tris(x, x, x, x, x, x), tris(x, x, x, x, x, x))
	divides(t, tris(x, x, x, y, y, y), tris(x, x, x), tris(y, y, y))
	divides(t, tris(x, x, y, z, x, x), tris(x, x, y, x, x, z))
	divides(t, tris(x, x, y, x, y, x, y, x, x), tris(x, x, y, x, y, x, y, x, x))
	divides(t, tris(x, x, x, x, o, x, y, y, y, x, y, o), tris(x, x, x, x, o, x, x, y, o), tris(y, y, y))
	divides(t, tris(x, x, y, o, x, z, y, y, z), tris(x, x, y), tris(o, x, z), tris(y, y, z)) // common corners only
}

// P4.6: an edge that belongs to more than two triangles joins all of them, in both directions.
func TestP4_6ManyAtAnEdge(t *testing.T) {
	var up, down []api.Tri
	for i := range 3000 {
		up = append(up, api.Tri{o, x, at(0, 1, i)})
		down = append(down, api.Tri{x, o, at(0, 2, i)})
	}
	g := generator(7)
	divides(t, g.shuffled(append(up[:3:3], down[:2]...)), append(up[:3:3], down[:2]...))
	divides(t, g.shuffled(append(up[:1:1], down...)), append(up[:1:1], down...))
	divides(t, g.shuffled(append(up, down[0])), append(up[:len(up):len(up)], down[0]))
	divides(t, g.shuffled(append(up, down...)), append(up[:len(up):len(up)], down...))
	var alone [][]api.Tri
	for _, u := range up {
		alone = append(alone, []api.Tri{u})
	}
	divides(t, g.shuffled(up), alone...)
}

// P4.6: many lists, of one part or of several.
func TestP4_6PartsOfMany(t *testing.T) {
	numbers := map[int]int{}
	forLists(600, func(g *generator, l []api.Tri) {
		want := refParts(l)
		numbers[len(want)]++
		divides(t, l, want...)
		l = g.shuffled(l)
		divides(t, l, refParts(l)...)
	})
	for n := range 5 {
		if numbers[n] < 50 {
			t.Errorf("only %d lists with %d parts", numbers[n], n)
		}
	}
}

// P4.6: lists of thousands of triangles, in one part, as a long strip, around a corner, and in many parts.
func TestP4_6Large(t *testing.T) {
	g := generator(8)
	for _, l := range [][]api.Tri{torus(70, 80), strip(20000), ring(o, 20000), doubleCone(9000)} {
		divides(t, l, l)
		divides(t, g.shuffled(l), l)
	}
	var all []api.Tri
	var parts [][]api.Tri
	for i := range 3000 {
		part := moved(tetrahedron()[:1+i%4], at(2*i, 0, 0))
		all = append(all, part...)
		parts = append(parts, part)
	}
	divides(t, g.shuffled(all), parts...)
	slices.Reverse(all)
	divides(t, all, parts...)
}
