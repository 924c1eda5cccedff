package mesh_test

import (
	"slices"
	"testing"

	"lithophane/api"
	"lithophane/mesh"
	"lithophane/wide"
)

// closedSolids returns lists of cells whose surfaces are closed: known ones with
// tunnels, hollows and several parts, and such that are made by chance.
func closedSolids() [][]api.Point {
	all := [][]api.Point{
		{o}, {o, at(2, 0, 0)}, box(2, 3, 4), box(3, 3, 1, at(1, 1, 0)), box(5, 3, 1, at(1, 1, 0), at(3, 1, 0)),
		box(3, 3, 3, at(1, 1, 1)), box(5, 5, 5, at(1, 1, 1), at(3, 3, 3), at(3, 1, 2)), box(5, 5, 5, box(3, 3, 3)...),
		box(3, 3, 3, at(1, 1, 0), at(1, 1, 1), at(1, 1, 2), at(0, 1, 1), at(2, 1, 1), at(1, 0, 1), at(1, 2, 1)),
	}
	g := generator(10)
	for len(all) < 120 {
		all = append(all, g.lattice())
		if cells := g.growth(); refCheck(solid(cells...), true) == api.OK {
			all = append(all, cells)
		}
	}
	return all
}

// growth returns cells each of which has a face in common with one before it.
func (g *generator) growth() []api.Point {
	cells := []api.Point{o}
	steps := []api.Point{x, y, z, at(-1, 0, 0), at(0, -1, 0), at(0, 0, -1)}
	for range g.below(20) {
		if c := sum(cells[g.below(len(cells))], steps[g.below(6)]); !slices.Contains(cells, c) {
			cells = append(cells, c)
		}
	}
	return cells
}

// lattice returns cells at even places, some of which are joined by the cells in
// between: the surface is closed, as cells that touch have a face in common, or a
// common neighbour.
func (g *generator) lattice() []api.Point {
	var cells []api.Point
	for _, c := range box(5, 3, 3) {
		odd := c.X%2 + c.Y%2 + c.Z%2
		if odd == 0 || odd == 1 && g.below(4) > 0 {
			cells = append(cells, c)
		}
	}
	return cells
}

// P4.9: Volume6 of a closed list is six times the volume, wherever the list is; that of its parts adds up.
func TestP4_9Volume(t *testing.T) {
	for _, cells := range closedSolids() {
		l := solid(cells...)
		want := wide.From(6 * len(cells))
		for _, by := range []api.Point{o, at(-7, 3, 100), at(1<<40, -1<<50, 1<<62), at(99-1<<63, 1<<62, 99-1<<63)} {
			wants(t, "Volume6", l, mesh.Volume6(moved(l, by)), want)
			wants(t, "Volume6 of the turned ones", l, mesh.Volume6(turned(moved(l, by))), wide.Neg(want))
		}
		var total api.Wide
		for _, part := range mesh.Parts(l) {
			total = wide.Add(total, mesh.Volume6(part))
		}
		wants(t, "Volume6 of the parts", l, total, want)
	}
}

// P4.9: the Euler numbers of the parts of a closed list are even, at most 2, and add up.
func TestP4_9Euler(t *testing.T) {
	seen := map[int]int{}
	for _, cells := range closedSolids() {
		l := solid(cells...)
		total := 0
		for _, part := range mesh.Parts(l) {
			n := mesh.Euler(part)
			if n%2 != 0 || n > 2 {
				t.Errorf("Euler of a part of %s: %d", brief(l), n)
			}
			checks(t, part, api.OK, api.OK)
			total += n
			seen[n]++
		}
		wants(t, "Euler of the parts", l, total, mesh.Euler(l))
	}
	if min(seen[2], seen[0], seen[-2], seen[-4]) < 5 {
		t.Errorf("Euler numbers: %v", seen)
	}
}

// P4.9: any triangles of a closed list satisfy CheckOpen; Check only if they are whole parts.
func TestP4_9Subsets(t *testing.T) {
	g := generator(11)
	for _, cells := range closedSolids() {
		l := g.shuffled(solid(cells...))
		for range 10 {
			some := l[:g.below(len(l)+1)]
			closed := api.OK
			if len(mesh.Border(some)) > 0 {
				closed = api.ErrOpen
			}
			checks(t, some, closed, api.OK)
			l = g.shuffled(l)
		}
	}
}

// P4.9: if all triangles of any list are turned round, Check and Euler stay, and Volume6 changes its sign.
func TestP4_9Turned(t *testing.T) {
	check := func(l []api.Tri) {
		round := turned(l)
		checks(t, round, mesh.Check(l), mesh.CheckOpen(l))
		wants(t, "Euler of the turned ones", l, mesh.Euler(round), mesh.Euler(l))
		wants(t, "Volume6 of the turned ones", l, mesh.Volume6(round), wide.Neg(mesh.Volume6(l)))
	}
	for _, l := range kinds() {
		check(l)
	}
	forLists(200, func(g *generator, l []api.Tri) { check(l) })
}

// P4.9: long closed lists.
func TestP4_9Large(t *testing.T) {
	g := generator(12)
	for _, l := range [][]api.Tri{torus(70, 80), doubleCone(9000), solid(box(12, 11, 13)...), solid(box(30, 30, 1, at(9, 9, 0), at(20, 5, 0))...)} {
		l = g.shuffled(l)
		checks(t, l, api.OK, api.OK)
		checks(t, l[:len(l)/2], api.ErrOpen, api.OK)
		checks(t, append(l[:len(l):len(l)], l[0]), api.ErrEdge, api.ErrEdge)
		wants(t, "Volume6, moved", l, mesh.Volume6(moved(l, at(5, -6, 7))), mesh.Volume6(l))
		wants(t, "Euler, turned", l, mesh.Euler(turned(l)), mesh.Euler(l))
	}
	for _, l := range [][]api.Tri{strip(20000), ring(o, 20000)} {
		checks(t, g.shuffled(l), api.ErrOpen, api.OK)
	}
	pinch := append(doubleCone(9000), mirrored(doubleCone(5000))...)
	checks(t, g.shuffled(pinch), api.ErrPinch, api.ErrPinch)
}
