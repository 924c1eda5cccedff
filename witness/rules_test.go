package witness_test

import (
	"math"
	"slices"
	"testing"

	"lithophane/api"
	"lithophane/wide"
	"lithophane/witness"
)

// results are those of both functions.
type results struct {
	number int
	kind   api.Errno
	delta  api.Wide
}

func resultsFor(c claim) results {
	number, kind := witness.Check(c.fine, c.coarse, c.moves)
	return results{number, kind, witness.Delta(c.fine, c.coarse)}
}

// forClaims calls check with claims of all kinds.
func forClaims(seed int, check func(c claim)) {
	for _, c := range claimsOf(alone()) {
		check(c)
	}
	forShapes(seed, 4, func(g *generator, name string, l []api.Tri) {
		c := simplified(l, len(l)/2)
		check(c)
		check(g.changed(c, nil))
		check(g.changed(c, []api.Point{at(1, 2, 3)}))
	})
	g := generator(seed + 1)
	for _, space := range spaces() {
		for range 30 {
			corners := g.corners(space)
			check(g.mapped(g.soup(corners)))
			check(claim{g.soup(corners), g.soup(corners), g.anyMoves(corners)})
		}
	}
}

func (g *generator) anyMoves(points []api.Point) []api.Move {
	var moves []api.Move
	for range g.below(6) {
		moves = append(moves, move(pick(g, points), pick(g, points)))
	}
	return moves
}

// R1: nil and empty lists are the same, for each of the three.
func TestR1NilAndEmpty(t *testing.T) {
	lists := [][]api.Tri{nil, {}, tetrahedron(3)[:0]}
	moves := [][]api.Move{nil, {}, divided(at(1, 1, 1)).moves[:0]}
	for _, fine := range lists {
		for _, coarse := range lists {
			for _, m := range moves {
				if got := resultsFor(claim{fine, coarse, m}); got != (results{}) {
					t.Errorf("results for empty lists: %v", got)
				}
			}
			claim{fine, coarse, []api.Move{{}}}.wants(t, 0, api.ErrMove)
			claim{fine, tris(at(1, 0, 0), at(0, 1, 0), at(0, 0, 1)), nil}.wants(t, 0, api.ErrBorder)
			claim{tris(at(1, 0, 0), at(0, 1, 0), at(0, 0, 1)), coarse, nil}.wants(t, 0, api.ErrBorder)
			claim{fine, tetrahedron(2), nil}.wants(t, 0, api.ErrCover)
			claim{tetrahedron(2), coarse, nil}.wants(t, 0, api.ErrCover)
		}
	}
	for _, m := range moves {
		claim{tetrahedron(2), tetrahedron(2), m}.wants(t, 0, api.OK)
	}
}

// R2, R3: without an error the number is the bound, with one it is 0; arguments, and what
// lies behind their ends, are unchanged, and nothing behind their ends counts.
func TestR3Arguments(t *testing.T) {
	forClaims(61, func(c claim) {
		memory := claim{append(slices.Clone(c.fine), api.Tri{}, api.Tri{at(1, 2, 3)}), append(slices.Clone(c.coarse), api.Tri{}), append(slices.Clone(c.moves), api.Move{}, move(at(9, 9, 9), at(1, 1, 1)))}
		before := memory.copied()
		want := resultsFor(c.copied())
		got := resultsFor(claim{memory.fine[:len(c.fine)], memory.coarse[:len(c.coarse)], memory.moves[:len(c.moves)]})
		if got != want || got.kind != api.OK && got.number != 0 {
			t.Fatalf("results for %s: %v; want %v", brief(c), got, want)
		}
		if !slices.Equal(memory.fine, before.fine) || !slices.Equal(memory.coarse, before.coarse) || !slices.Equal(memory.moves, before.moves) {
			t.Fatalf("a call changes %s", brief(before))
		}
	})
}

// R3: a list may be both fine and coarse, and stand before the other one in memory.
func TestR3SharedArguments(t *testing.T) {
	forClaims(62, func(c claim) {
		both := append(slices.Clone(c.fine), c.coarse...)
		n := len(c.fine)
		if got, want := resultsFor(claim{both[:n], both[n:], c.moves}), resultsFor(c.copied()); got != want {
			t.Fatalf("results for %s: %v; want %v", brief(c), got, want)
		}
		if got, want := resultsFor(claim{both[:n], both[:n], c.moves}), resultsFor(claim{slices.Clone(both[:n]), slices.Clone(both[:n]), c.moves}); got != want {
			t.Fatalf("results for %s: %v; want %v", brief(c), got, want)
		}
	})
}

// R4: the same calls return the same again, in any order, also if the lists have been
// changed since.
func TestR4SameAgain(t *testing.T) {
	var claims []claim
	var first []results
	var deltas []string
	forClaims(63, func(c claim) {
		argument := c.copied()
		r := resultsFor(argument)
		clear(argument.fine)
		clear(argument.coarse)
		clear(argument.moves)
		claims, first, deltas = append(claims, c), append(first, r), append(deltas, wide.Text(r.delta))
	})
	for i := len(claims) - 1; i >= 0; i-- {
		again := resultsFor(claims[i])
		if again != first[i] || wide.Text(again.delta) != deltas[i] {
			t.Fatalf("%s: %v; before: %v", brief(claims[i]), again, first[i])
		}
	}
}

// P1, R5: all calls end, for lists that are no surfaces, moves in no order, and
// coordinates of all sizes.
func TestP1AnyArguments(t *testing.T) {
	g := generator(64)
	for _, space := range spaces() {
		for range 300 {
			corners := g.corners(space)
			list := func() []api.Tri {
				var l []api.Tri
				for range g.below(9) {
					l = append(l, api.Tri{pick(&g, corners), pick(&g, corners), pick(&g, corners)})
				}
				return l
			}
			c := claim{list(), list(), g.anyMoves(corners)}
			number, kind := refCheck(c)
			c.wants(t, number, kind)
			checkDelta(t, c.fine, c.coarse)
		}
	}
	lo, hi := at(math.MinInt, math.MinInt, math.MinInt), at(math.MaxInt, math.MaxInt, math.MaxInt)
	forth, back := move(lo, hi), move(hi, lo)
	for _, l := range [][]api.Tri{nil, tetrahedron(1), tetrahedron(1)[1:], tris(lo, hi, at(0, 0, 0)), leaf(lo, hi, at(0, 0, 0))} {
		claim{l, l, []api.Move{forth, back}}.wants(t, 0, api.ErrMove)
		claim{l, l, []api.Move{back, forth}}.wants(t, 0, api.ErrMove)
	}
	for _, m := range []api.Move{forth, back} {
		claim{tetrahedron(1), tetrahedron(1), []api.Move{m}}.wants(t, 0, api.ErrMove)
		claim{leaf(lo, hi, at(0, 0, 0)), leaf(lo, hi, at(0, 0, 0)), []api.Move{m}}.wants(t, 0, api.ErrCover)
		claim{append(leaf(m.From, at(1, 1, 1), at(2, 2, 2)), leaf(m.To, at(3, 3, 3), at(4, 4, 4))...), leaf(m.To, at(3, 3, 3), at(4, 4, 4)),
			ordered([]api.Move{m, move(at(1, 1, 1), m.To), move(at(2, 2, 2), m.To)})}.wants(t, 0, api.ErrRange)
	}
}
