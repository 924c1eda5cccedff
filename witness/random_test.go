package witness_test

import (
	"slices"
	"testing"

	"lithophane/api"
	"lithophane/mesh"
)

// mapped returns a claim about a soup: some of its inner corners move to others, and
// coarse consists of the images, each once, as far as CheckOpen accepts them.
func (g *generator) mapped(l []api.Tri) claim {
	c := claim{fine: l}
	corners := mesh.Corners(l)
	for _, p := range corners {
		if !refIsBorder(l, p) && g.below(3) > 0 {
			c.moves = append(c.moves, move(p, pick(g, corners)))
		}
	}
	if g.below(4) > 0 { // most of the moves lead to corners that stay
		c.moves = slices.DeleteFunc(c.moves, func(m api.Move) bool { return refIsMoved(c, m.To) })
	}
	for _, image := range g.shuffled(refImages(c)) {
		if n := len(c.coarse); mesh.CheckOpen(append(c.coarse[:n:n], image)) == api.OK {
			c.coarse = append(c.coarse, image)
		}
	}
	return c
}

// changed returns the claim with one change; other points may come into it.
func (g *generator) changed(c claim, others []api.Point) claim {
	c = c.copied()
	points := append(append(mesh.Corners(c.fine), mesh.Corners(c.coarse)...), others...)
	if len(points) == 0 {
		return c
	}
	m := move(pick(g, points), pick(g, points))
	switch kind := g.below(12); {
	case kind == 0:
		c.coarse = g.some(c.coarse, 1)
	case kind == 1:
		c.fine = g.some(c.fine, 1)
	case kind == 2 && len(c.coarse) > 0:
		k := g.below(len(c.coarse))
		c.coarse[k][0], c.coarse[k][1] = c.coarse[k][1], c.coarse[k][0]
	case kind == 3 && len(c.coarse) > 0:
		c.coarse = append(c.coarse, pick(g, c.coarse))
	case kind == 4 && len(c.moves) > 0:
		k := g.below(len(c.moves))
		c.moves = slices.Delete(c.moves, k, k+1)
	case kind == 5 && len(c.moves) > 0:
		c.moves[g.below(len(c.moves))].To = m.To
	case kind == 6 && len(c.moves) > 0:
		c.moves[g.below(len(c.moves))].From = m.From
	case kind == 7 && len(c.moves) > 0:
		i, j := g.below(len(c.moves)), g.below(len(c.moves))
		c.moves[i], c.moves[j] = c.moves[j], c.moves[i]
	case kind == 8:
		c.moves = ordered(append(c.moves, m))
	case kind == 9:
		c.moves = ordered(append(c.moves, move(m.From, m.From)))
	case kind == 10:
		c.coarse = with(c.coarse, m.From, m.To)
	case kind == 11:
		c.fine, c.coarse = c.coarse, c.fine
	}
	return c
}

// checkAll compares with the reference, and counts how often each condition is broken, and
// how often alone.
func checkAll(t *testing.T, c claim, count, single map[string]int) {
	t.Helper()
	broken, kind := refBroken(c)
	number := 0
	if kind == api.OK {
		number = int(refBound(c).Int64())
		count["none"]++
	}
	c.wants(t, number, kind)
	for _, name := range broken {
		count[name]++
	}
	if len(broken) == 1 {
		single[broken[0]]++
	}
	if number > 0 {
		count["a number"]++
	}
}

// P12.1: claims of all kinds, compared with the reference.
func TestP12_1ClaimsOfMany(t *testing.T) {
	count, single := map[string]int{}, map[string]int{}
	check := func(g *generator, c claim, others []api.Point) {
		checkAll(t, c, count, single)
		for range 6 {
			other := c
			for range 1 + g.below(2) {
				other = g.changed(other, others)
			}
			checkAll(t, other, count, single)
		}
	}
	forShapes(41, 8, func(g *generator, name string, l []api.Tri) {
		others := []api.Point{at(3, 3, 3), at(-1, 0, 0)}
		check(g, simplified(l, len(l)/2), others)
		check(g, apart(simplified(l, len(l)/2), pick(g, claimsOf(alone()))), others)
	})
	g := generator(42)
	for _, space := range spaces() {
		for range 250 {
			corners := g.corners(space)
			check(&g, g.mapped(g.soup(corners)), corners)
		}
	}
	good := []claim{divided(at(3, 4, 1)), taken(3), gathered(at(-5, 0, 0), at(-4, 1, 0), at(0, 0, -7)), simplified(octahedron(9), 6)}
	for range 30 {
		for _, c := range append(claimsOf(alone()), good...) {
			check(&g, c, nil)
		}
	}
	checkCounts(t, count, single)
}

func claimsOf(all map[string]claim) []claim {
	var claims []claim
	for _, name := range names(all) {
		claims = append(claims, all[name])
	}
	return claims
}

// checkCounts checks that each condition was broken often enough, alone where it can be.
func checkCounts(t *testing.T, count, single map[string]int) {
	t.Helper()
	for name := range alone() {
		if name != "to itself" && single[name] < 30 {
			t.Errorf("%q was broken alone %d times only", name, single[name])
		}
	}
	for _, c := range conditions() {
		if c.name != "image of one" && count[c.name] < 100 {
			t.Errorf("%q was broken %d times only", c.name, count[c.name])
		}
	}
	if min(count["none"], count["a number"]) < 300 {
		t.Errorf("%d claims were accepted, %d with a number", count["none"], count["a number"])
	}
}
