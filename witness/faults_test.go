package witness_test

import (
	"math"
	"slices"
	"testing"

	"lithophane/api"
	"lithophane/mesh"
)

// divided is a tetrahedron, of which a triangle is divided by a further corner, which
// moves to the first one.
func divided(further api.Point) claim {
	a, b, c, d := at(0, 0, 0), at(30, 0, 0), at(0, 30, 0), at(0, 0, 30)
	rest := tris(a, c, d, b, a, d, c, b, d)
	return claim{append(wheel(further, a, b, c), rest...), append(tris(a, b, c), rest...), []api.Move{move(further, a)}}
}

// gathered is a surface, and a closed one of two triangles whose corners all move to one
// of the first one.
func gathered(corners ...api.Point) claim {
	l := tetrahedron(30)
	a := at(0, 0, 0)
	moves := ordered([]api.Move{move(corners[0], a), move(corners[1], a), move(corners[2], a)})
	return claim{append(leaf(corners[0], corners[1], corners[2]), l...), l, moves}
}

// crossing is a surface with two fans at one corner p, and two inner corners that are
// neighbours and move to p: the fans of the result lead from a1 to b2, and from a2 to b1,
// while those before it lead from a1 to b1, and from a2 to b2.
func crossing() claim {
	p, x, y, w1, w2 := at(0, 0, 0), at(10, 0, 0), at(-10, 0, 0), at(0, 10, 0), at(0, -10, 0)
	a1, b1, a2, b2 := at(20, 10, 0), at(20, -10, 0), at(-20, -10, 0), at(-20, 10, 0)
	c1, c2 := at(0, 30, 0), at(0, -30, 0)
	outer := tris(w1, a1, c1, w1, c1, b2, w2, a2, c2, w2, c2, b1)
	inner := append(fan(x, b1, p, a1, w1, y, w2, b1), fan(y, x, w1, b2, p, a2, w2)[1:]...)
	return claim{append(inner, outer...), append(tris(p, a1, w1, p, w1, b2, p, a2, w2, p, w2, b1), outer...), []api.Move{move(y, p), move(x, p)}}
}

// replaced is a tetrahedron of which a corner moves to a new place.
func replaced() claim {
	from, to := at(0, 0, 0), at(-3, -4, 0)
	return claim{tetrahedron(9), with(tetrahedron(9), from, to), []api.Move{move(from, to)}}
}

// exchanged is a tetrahedron whose corners change places, so that each triangle becomes
// another one.
func exchanged() claim {
	c := unchanged(tetrahedron(9))
	a, b, d, e := at(0, 0, 0), at(9, 0, 0), at(0, 9, 0), at(0, 0, 9)
	c.moves = []api.Move{move(a, b), move(e, d), move(d, e), move(b, a)}
	return c
}

// taken is a wheel whose hub moves to a corner around it.
func taken(spokes int) claim {
	ring, hub := ringOf(spokes, 40), at(1, 2, 9)
	return claim{wheel(hub, ring...), fan(ring[0], ring[1:]...), []api.Move{move(hub, ring[0])}}
}

// doubled consists of two tetrahedra, of which one moves onto the other one.
func doubled() claim {
	by := at(60, 0, 0)
	var moves []api.Move
	for _, p := range mesh.Corners(tetrahedron(9)) {
		moves = append(moves, move(sum(p, by), p))
	}
	return claim{append(tetrahedron(9), shifted(tetrahedron(9), by)...), tetrahedron(9), moves}
}

// vanished is a tetrahedron of which all corners move to one, beside one that stays.
func vanished() claim {
	l := append(tetrahedron(9), shifted(tetrahedron(9), at(60, 0, 0))...)
	to := at(60, 0, 0)
	return claim{l, l, ordered([]api.Move{move(at(69, 0, 0), to), move(at(60, 9, 0), to), move(at(60, 0, 9), to)})}
}

// torn consists of three tetrahedra; two corners of one move to one of the others each.
func torn() claim {
	two := append(tetrahedron(9), shifted(tetrahedron(9), at(60, 0, 0))...)
	one, other, third := at(9, 0, 0), at(60, 0, 0), at(30, 0, 0)
	moves := []api.Move{move(third, one), move(sum(third, at(9, 0, 0)), one), move(sum(third, at(0, 9, 0)), other), move(sum(third, at(0, 0, 9)), other)}
	return claim{append(shifted(tetrahedron(9), third), two...), two, ordered(moves)}
}

// repeated has a move twice.
func repeated() claim {
	c := divided(at(3, 4, 1))
	c.moves = append(c.moves, c.moves[0])
	return c
}

// strayed has a move from a point that is no corner.
func strayed() claim {
	c := divided(at(3, 4, 1))
	c.moves = append(c.moves, move(at(55, 5, 5), at(0, 0, 0)))
	return c
}

// forgotten has a closed part that is gone.
func forgotten() claim {
	return claim{append(tetrahedron(9), shifted(tetrahedron(9), at(60, 0, 0))...), tetrahedron(9), nil}
}

// distant has a move that is too long.
func distant() claim {
	return gathered(at(math.MinInt, 0, 0), at(-5, 0, 0), at(-5, -5, 0))
}

// alone returns for each condition that can be broken alone a claim for which it is.
func alone() map[string]claim {
	stays := divided(at(3, 4, 1))
	stays.coarse, stays.moves = stays.fine, []api.Move{move(at(3, 4, 1), at(3, 4, 1))}
	return map[string]claim{
		"joined": taken(4), "fans": crossing(), "order": repeated(), "from elsewhere": strayed(), "to no corner of fine": replaced(),
		"to a beginning": exchanged(), "image of three": forgotten(), "image of two": torn(), "image of none": vanished(),
		"image of several": doubled(), "range": distant(), "to itself": stays,
	}
}

// names returns the keys in order, so that each run of a test does the same.
func names[T any](all map[string]T) []string {
	var names []string
	for name := range all {
		names = append(names, name)
	}
	slices.Sort(names)
	return names
}

// kinds returns the errors of the conditions.
func kinds() map[string]api.Errno {
	kinds := map[string]api.Errno{"to itself": api.ErrMove}
	for _, c := range conditions() {
		kinds[c.name] = c.kind
	}
	return kinds
}

// P12.1: each condition that can be broken alone is found alone. The others cannot: if
// the borders differ, the images cannot be the triangles of coarse, each once, as the
// border of their sum is that of fine; a corner of the border that moves is no image,
// unless it is To of a move; the image of a triangle with To, which is no corner of
// coarse, is none of its triangles; and if an image has only one corner, it is To of a
// move.
func TestP12_1EachAlone(t *testing.T) {
	for _, name := range names(alone()) {
		c := alone()[name]
		want := []string{name}
		if name == "to itself" {
			want = []string{"to a beginning"}
		}
		if broken, _ := refBroken(c); !slices.Equal(broken, want) {
			t.Fatalf("broken in %q: %v", name, broken)
		}
		c.wants(t, 0, kinds()[name])
	}
}

// apart returns the claims as one, with a distance between them.
func apart(claims ...claim) claim {
	var all []claim
	for i, c := range claims {
		all = append(all, c.shifted(at(0, 0, 500*i)))
	}
	return joint(all...)
}

// P12.1: of all kinds of errors, the first one is returned, whatever the order of the
// triangles is.
func TestP12_1FirstError(t *testing.T) {
	g := generator(11)
	all, lists := alone(), refused()
	kindsOfLists := []api.Errno{api.ErrCorner, api.ErrEdge, api.ErrPinch, api.OK}
	check := func(name, other string) {
		c := apart(all[name], all[other])
		forPairs(kindsOfLists, func(fine, coarse api.Errno) {
			want := firstOf(kinds()[name], kinds()[other])
			switch {
			case fine != api.OK:
				want = fine
			case coarse != api.OK:
				want = coarse
			}
			claim{g.shuffled(append(c.fine, lists[fine]...)), g.shuffled(append(c.coarse, lists[coarse]...)), c.moves}.wants(t, 0, want)
		})
	}
	forPairs(names(all), check)
}

// firstOf returns the one of two errors that counts.
func firstOf(a, b api.Errno) api.Errno {
	for _, kind := range []api.Errno{api.ErrBorder, api.ErrMove, api.ErrCover} {
		if a == kind || b == kind {
			return kind
		}
	}
	return api.ErrRange
}

func forPairs[T any](all []T, check func(a, b T)) {
	for _, a := range all {
		for _, b := range all {
			check(a, b)
		}
	}
}
