package witness_test

import (
	"slices"
	"testing"

	"lithophane/api"
	"lithophane/collapse"
	"lithophane/mesh"
	"lithophane/witness"
)

// P12.4: every surface is accepted as it is; a list that is none has the error of
// mesh.CheckOpen.
func TestP12_4Unchanged(t *testing.T) {
	count := map[api.Errno]int{}
	check := func(g *generator, l []api.Tri) {
		kind := mesh.CheckOpen(l)
		claim{l, g.shuffled(l), nil}.wants(t, 0, kind)
		claim{g.shuffled(l), l, []api.Move{}}.wants(t, 0, kind)
		count[kind]++
	}
	faults := refused()
	forShapes(31, 30, func(g *generator, name string, l []api.Tri) {
		check(g, l)
		check(g, append(slices.Clone(l), pick(g, [][]api.Tri{faults[api.ErrCorner], faults[api.ErrEdge], faults[api.ErrPinch]})...))
	})
	g := generator(32)
	for _, space := range spaces() {
		for range 200 {
			check(&g, g.soup(g.corners(space)))
		}
	}
	for _, kind := range []api.Errno{api.OK, api.ErrCorner, api.ErrEdge, api.ErrPinch} {
		if count[kind] < 20 {
			t.Errorf("only %d lists with %v", count[kind], kind)
		}
	}
}

// simplified returns the claim that collapse.Simplify makes.
func simplified(l []api.Tri, want int) claim {
	coarse, moves := collapse.Simplify(l, want)
	return claim{l, coarse, moves}
}

// P12.1: what collapse.Simplify makes is accepted, in one step or in several, for closed
// surfaces and for such with a border.
func TestP12_1Simplified(t *testing.T) {
	closed, open := 0, 0
	check := func(l []api.Tri, want int) []api.Tri {
		c := simplified(l, want)
		if mesh.CheckOpen(l) != api.OK {
			return c.coarse
		}
		c.wants(t, int(refBound(c).Int64()), api.OK)
		if len(c.moves) > 0 && mesh.Check(l) == api.OK {
			closed++
		}
		if len(c.moves) > 0 && mesh.Check(l) != api.OK {
			open++
		}
		return c.coarse
	}
	forShapes(33, 12, func(g *generator, name string, l []api.Tri) {
		check(l, 0)
		for step := l; ; {
			next := check(step, len(step)-1-g.below(6))
			if len(next) == len(step) {
				break
			}
			step = next
		}
	})
	if min(closed, open) < 150 {
		t.Errorf("%d closed surfaces, %d with a border", closed, open)
	}
}

// P12.1: what is simplified is not accepted, if a triangle of it is missing, turned
// round, or there twice, or if a triangle of fine is missing or turned round.
func TestP12_1SpoiledTriangles(t *testing.T) {
	spoil := func(c claim, k int) {
		tri := c.coarse[k]
		claim{c.fine, without(c.coarse, k), c.moves}.wants(t, 0, api.ErrBorder)
		claim{c.fine, append(slices.Clone(c.coarse), tri), c.moves}.wants(t, 0, api.ErrEdge)
		claim{c.fine, append(slices.Clone(c.coarse), api.Tri{tri[1], tri[2], tri[0]}), c.moves}.wants(t, 0, api.ErrEdge)
		round := append(without(c.coarse, k), api.Tri{tri[0], tri[2], tri[1]})
		if n, kind := witness.Check(c.fine, round, c.moves); n != 0 || kind != api.ErrEdge && kind != api.ErrBorder {
			t.Fatalf("Check of %s, %s: %d, %v", brief(c.fine), brief(round), n, kind)
		}
		k %= len(c.fine)
		claim{without(c.fine, k), c.coarse, c.moves}.wants(t, 0, api.ErrBorder)
		claim{append(slices.Clone(c.fine), c.fine[k]), c.coarse, c.moves}.wants(t, 0, api.ErrEdge)
	}
	forShapes(34, 6, func(g *generator, name string, l []api.Tri) {
		c := simplified(l, len(l)/2)
		for k := range c.coarse {
			spoil(c, k)
		}
	})
}

// P12.1: what is simplified is not accepted without one of its moves.
func TestP12_1MissingMoves(t *testing.T) {
	moves := 0
	forShapes(35, 12, func(g *generator, name string, l []api.Tri) {
		for _, want := range []int{0, len(l) / 2, len(l) - 1} {
			c := simplified(l, want)
			for k := range c.moves {
				claim{c.fine, c.coarse, slices.Delete(slices.Clone(c.moves), k, k+1)}.wants(t, 0, api.ErrCover)
				moves++
			}
		}
	})
	if moves < 1000 {
		t.Errorf("only %d moves", moves)
	}
}

// P12.1: if a move leads to another corner, the result is seldom accepted: only if all
// triangles become the same.
func TestP12_1OtherEnds(t *testing.T) {
	count := map[api.Errno]int{}
	forShapes(36, 4, func(g *generator, name string, l []api.Tri) {
		c := simplified(l, len(l)/2)
		for k := range c.moves {
			for range 4 {
				other := c.copied()
				other.moves[k].To = pick(g, mesh.Corners(pick(g, [][]api.Tri{c.coarse, c.fine})))
				number, kind := refCheck(other)
				other.wants(t, number, kind)
				if other.moves[k].To != c.moves[k].To {
					count[kind]++
				}
			}
		}
	})
	if min(count[api.ErrCover], count[api.ErrMove], 5*count[api.OK]) < 100 || count[api.OK] > count[api.ErrCover]/5 {
		t.Errorf("results: %v", count)
	}
}

// P12.4: the order of the triangles, and their first corners, have no effect, whatever
// the result is.
func TestP12_4AnyOrder(t *testing.T) {
	g := generator(37)
	check := func(c claim) {
		number, kind := witness.Check(c.fine, c.coarse, c.moves)
		for range 5 {
			claim{g.shuffled(c.fine), g.shuffled(c.coarse), c.moves}.wants(t, number, kind)
		}
	}
	for _, name := range names(alone()) {
		check(alone()[name])
	}
	for _, l := range refused() {
		check(claim{l, tetrahedron(9), nil})
		check(claim{tetrahedron(9), l, nil})
	}
	forShapes(38, 4, func(g *generator, name string, l []api.Tri) {
		check(simplified(l, len(l)/2))
		check(claim{l, simplified(l, len(l)/2).coarse, nil})
	})
}
