package witness_test

import (
	"slices"
	"testing"

	"lithophane/api"
)

// permutations returns all orders of three things.
func permutations[T any](a, b, c T) [][]T {
	return [][]T{{a, b, c}, {a, c, b}, {b, a, c}, {b, c, a}, {c, a, b}, {c, b, a}}
}

// P12.1: the beginnings of the moves must ascend, by X, then by Y, then by Z.
func TestP12_1MovesInOrder(t *testing.T) {
	for _, points := range [][]api.Point{
		{at(101, 0, 0), at(102, 0, 0), at(103, 0, 0)}, {at(100, 1, 0), at(100, 2, 0), at(100, 3, 0)}, {at(100, 0, 1), at(100, 0, 2), at(100, 0, 3)},
		{at(-9, 5, 5), at(-8, 4, 9), at(-7, 3, 2)}, {at(100, -9, 5), at(100, -8, 4), at(100, -7, 3)}, {at(100, 5, -3), at(100, 5, -2), at(100, 6, -4)},
		{at(-3, 0, 9), at(-3, 5, 1), at(-2, -9, 0)}, {at(-1<<62, 0, 0), at(-5, 0, 0), at(1<<62, 0, 0)},
	} {
		c := gathered(points...)
		for k, moves := range permutations(c.moves[0], c.moves[1], c.moves[2]) {
			_, want := refCheck(claim{c.fine, c.coarse, ordered(moves)})
			if want != api.OK {
				t.Fatalf("moves in order: %v", want)
			}
			if k > 0 {
				want = api.ErrMove
			}
			number := 0
			if want == api.OK {
				number = int(refBound(c).Int64())
			}
			claim{c.fine, c.coarse, moves}.wants(t, number, want)
		}
	}
}

// P12.1: a move that is there twice, one with the same beginning and another end.
func TestP12_1MovesTwice(t *testing.T) {
	c := divided(at(3, 4, 1))
	first := c.moves[0]
	for _, again := range []api.Move{first, move(first.From, at(30, 0, 0)), move(first.From, at(0, 0, 30))} {
		claim{c.fine, c.coarse, []api.Move{first, again}}.wants(t, 0, api.ErrMove)
		claim{c.fine, c.coarse, []api.Move{again, first}}.wants(t, 0, api.ErrMove)
	}
	g := gathered(at(101, 0, 0), at(102, 0, 0), at(103, 0, 0))
	for k := range g.moves {
		claim{g.fine, g.coarse, slices.Insert(slices.Clone(g.moves), k, g.moves[k])}.wants(t, 0, api.ErrMove)
		claim{g.fine, g.coarse, append(slices.Clone(g.moves), g.moves[k])}.wants(t, 0, api.ErrMove)
	}
}

// checkMove checks a claim with one further move, wherever it belongs.
func checkMove(t *testing.T, c claim, further api.Move, kind api.Errno) {
	t.Helper()
	claim{c.fine, c.coarse, ordered(append(slices.Clone(c.moves), further))}.wants(t, 0, kind)
}

// P12.1: a move from a point that is no corner of fine.
func TestP12_1MoveFromElsewhere(t *testing.T) {
	c := divided(at(3, 4, 1))
	for _, from := range []api.Point{at(-90, 0, 0), at(90, 0, 0), at(3, 4, 2), at(3, 3, 9), at(4, 1, 3)} {
		checkMove(t, c, move(from, at(0, 0, 0)), api.ErrMove)
		checkMove(t, c, move(from, from), api.ErrMove)
		checkMove(t, unchanged(c.coarse), move(from, at(0, 0, 0)), api.ErrMove)
		checkMove(t, unchanged(nil), move(from, at(0, 0, 0)), api.ErrMove)
	}
	back := replaced() // the beginning is a corner of coarse alone
	checkMove(t, claim{back.coarse, back.fine, nil}, back.moves[0], api.ErrMove)
}

// P12.1: a move from a border corner of fine.
func TestP12_1MoveFromBorder(t *testing.T) {
	ring := ringOf(5, 40)
	hub := at(1, 2, 9)
	l := wheel(hub, ring...)
	for k, p := range ring {
		for _, to := range []api.Point{hub, ring[(k+1)%5], ring[(k+2)%5], p} {
			checkMove(t, unchanged(l), move(p, to), api.ErrMove)
		}
	}
	c := taken(3)
	checkMove(t, c, move(at(-20, 35, 0), at(40, 0, 0)), api.ErrMove)
	several := append(wheel(at(9, 0, 5), at(0, 0, 0), at(20, 10, 0), at(20, -10, 0)), wheel(at(-9, 0, 5), at(0, 0, 0), at(-20, -10, 0), at(-20, 10, 0))...)
	checkMove(t, unchanged(several), move(at(0, 0, 0), at(9, 0, 5)), api.ErrMove)
}

// P12.1: moves to corners of fine alone, of coarse alone, of neither.
func TestP12_1MoveToElsewhere(t *testing.T) {
	e, a, b := at(3, 4, 1), at(0, 0, 0), at(30, 0, 0)
	c := divided(e)
	// Both further corners are those of fine alone.
	u, v := at(7, 7, 2), at(9, 8, 3)
	both := claim{append(leaf(u, v, e), c.coarse...), c.coarse, nil}
	for _, to := range []api.Point{u, at(-1, 0, 0), at(31, 0, 0), at(3, 4, 2)} {
		claim{both.fine, both.coarse, []api.Move{move(e, to), move(v, a)}}.wants(t, 0, api.ErrMove)
		claim{both.fine, both.coarse, []api.Move{move(e, a), move(v, to)}}.wants(t, 0, api.ErrMove)
	}
	claim{both.fine, both.coarse, []api.Move{move(e, a), move(u, a), move(v, b)}}.wants(t, 23, api.OK) // u: 10.1, v: 22.6, e: 5.1
	replaced().wants(t, 0, api.ErrMove)                                                                // of coarse alone
	claim{c.fine, c.coarse, []api.Move{move(e, at(1, 1, 1))}}.wants(t, 0, api.ErrMove)                 // of neither
	claim{c.fine, nil, []api.Move{move(e, a)}}.wants(t, 0, api.ErrMove)
}

// P12.1: moves to a beginning of a move: the one before, the one behind, its own.
func TestP12_1MoveToBeginning(t *testing.T) {
	exchanged().wants(t, 0, api.ErrMove)
	for _, l := range [][]api.Tri{tetrahedron(9), octahedron(9), torus(4, 4, 30, 10)} {
		for _, tri := range l {
			for _, p := range tri {
				checkMove(t, unchanged(l), move(p, p), api.ErrMove)
			}
		}
	}
	a := at(0, 0, 0)
	c := gathered(at(101, 0, 0), at(102, 0, 0), at(103, 0, 0))
	for k, m := range c.moves {
		chain := slices.Clone(c.moves)
		chain[(k+1)%3].To = m.From
		claim{c.fine, c.coarse, chain}.wants(t, 0, api.ErrMove)
		claim{c.fine, c.fine, chain}.wants(t, 0, api.ErrMove) // To is a corner of coarse too
		chain[k].To = chain[(k+1)%3].From
		claim{c.fine, c.fine, chain}.wants(t, 0, api.ErrMove)
		checkMove(t, c, move(a, at(0, 0, 30)), api.ErrMove) // all others lead to a
	}
}
