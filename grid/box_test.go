package grid_test

import (
	"testing"

	"lithophane/api"
	"lithophane/grid"
	"lithophane/mesh"
)

// box is the surface around the points from least to most, with each side divided
// along one of its diagonals.
type box struct{ low, high api.Point }

// corner returns the corner with the greater coordinates along the axes of the bits.
func (b box) corner(bits int) api.Point {
	p := b.low
	for axis := range 3 {
		if bits>>axis&1 == 1 {
			p = with(p, axis, coordinates(b.high)[axis])
		}
	}
	return p
}

func (b box) surface(g *generator) []api.Tri {
	var l []api.Tri
	for axis := range 3 {
		u, w := 1<<((axis+1)%3), 1<<((axis+2)%3)
		for _, square := range [][4]int{{0, w, u | w, u}, {1 << axis, 1<<axis | u, 1<<axis | u | w, 1<<axis | w}} {
			first := g.below(2)
			at := func(i int) api.Point { return b.corner(square[(first+i)%4]) }
			l = append(l, api.Tri{at(0), at(1), at(2)}, api.Tri{at(0), at(2), at(3)})
		}
	}
	return l
}

// contains reports whether the vertex with the numbers is inside.
func (b box) contains(vertex api.Point, level int) bool {
	for axis, number := range coordinates(vertex) {
		behind := number * size(level) // the vertex lies half a unit before it
		if behind <= coordinates(b.low)[axis] || behind > coordinates(b.high)[axis] {
			return false
		}
	}
	return true
}

// outwards returns those of the edges of which exactly one end is inside.
func (b box) outwards(edges []api.Edge, level int) []api.Edge {
	var l []api.Edge
	for _, e := range edges {
		if b.contains(start(e), level) != b.contains(end(e), level) {
			l = append(l, e)
		}
	}
	return l
}

// box returns one with ends at vertices, half a unit before or behind them, or anywhere.
func (g *generator) box(level int) box {
	for {
		p, q := g.point(level), g.point(level)
		b := box{at(min(p.X, q.X), min(p.Y, q.Y), min(p.Z, q.Z)), at(max(p.X, q.X), max(p.Y, q.Y), max(p.Z, q.Z))}
		if b.low.X < b.high.X && b.low.Y < b.high.Y && b.low.Z < b.high.Z {
			return b
		}
	}
}

// P6.4: boxes cross the edges that lead from a vertex inside to one outside, and no others.
func TestP6_4Boxes(t *testing.T) {
	g := generator(649)
	for level, rounds := range []int{0, 200, 200, 100, 20, 4} {
		edges, crossed := allEdges(level), 0
		for range rounds {
			b := g.box(level)
			l := b.surface(&g)
			if kind := mesh.Check(l); kind != api.OK {
				t.Fatalf("%v is not closed: %d", l, kind)
			}
			want := b.outwards(edges, level)
			crossed += len(want)
			checkCross(t, l, level, want)
		}
		if crossed < rounds/2 {
			t.Errorf("level %d: edges that are crossed: %d", level, crossed)
		}
	}
}

// P6.4: the greatest box contains all vertices but those at the ends; one of a unit
// around a vertex, or beside it, contains it, or nothing.
func TestP6_4GreatestAndLeastBoxes(t *testing.T) {
	g := generator(650)
	for _, level := range []int{1, 2, 4} {
		n := cells(level)
		all := box{at(0, 0, 0), at(most, most, most)}
		want := all.outwards(allEdges(level), level)
		if len(want) != 6*(n-1)*(n-1) {
			t.Fatalf("level %d: %d edges", level, len(want))
		}
		checkCross(t, all.surface(&g), level, want)
	}
	for by := range 27 {
		p := at(half-2+by%3, half-2+by/3%3, half-2+by/9)
		b := box{p, at(p.X+1, p.Y+1, p.Z+1)}
		var want []api.Edge
		if by == 13 {
			want = []api.Edge{edge(0, 0, 1, 1), edge(0, 1, 1, 1), edge(1, 1, 0, 1), edge(1, 1, 1, 1), edge(2, 1, 1, 0), edge(2, 1, 1, 1)}
		}
		checkCross(t, b.surface(&g), 1, want)
	}
}

// P6.4: a box within a box, and two that pass through each other: vertices in both are outside.
func TestP6_4TwoBoxes(t *testing.T) {
	g := generator(651)
	edges := allEdges(3)
	for range 50 {
		b, c := g.box(3), g.box(3)
		want := onlyOnce(append(b.outwards(edges, 3), c.outwards(edges, 3)...))
		checkCross(t, append(b.surface(&g), c.surface(&g)...), 3, want)
	}
}

// P6.4: at level 8, the faces of a large box have even numbers of edges that are
// crossed, and each of them leads outwards.
func TestP6_4LargeBox(t *testing.T) {
	g := generator(652)
	b := box{at(1, half-1, 8192), at(most-1, most, most-8192)}
	got := grid.Cross(b.surface(&g), 8)
	if want := b.outwards(got, 8); len(got) != len(want) {
		t.Errorf("%d edges, %d of them lead outwards", len(got), len(want))
	}
	if x, y, z := 255, 128, 253; len(got) != 2*(x*y+y*z+z*x) {
		t.Errorf("%d edges", len(got))
	}
	if odd := oddFaces(got, 8); len(odd) > 0 {
		t.Errorf("odd faces: %+v", odd)
	}
}
