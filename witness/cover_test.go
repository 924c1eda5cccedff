package witness_test

import (
	"slices"
	"testing"

	"lithophane/api"
)

// P12.1: the image of a triangle is one of coarse, with any of its corners in front.
func TestP12_1ImagesRotated(t *testing.T) {
	c := divided(at(3, 4, 1))
	for k := range 81 {
		fine, coarse := slices.Clone(c.fine), slices.Clone(c.coarse)
		for i, turns := 0, k; i < 4; i, turns = i+1, turns/3 {
			fine[i], coarse[i] = rotated(fine[i], turns), rotated(coarse[i], k/(i+1))
		}
		claim{fine, coarse, c.moves}.wants(t, 6, api.OK)
	}
}

func rotated(tri api.Tri, by int) api.Tri { return api.Tri{tri[by%3], tri[(by+1)%3], tri[(by+2)%3]} }

// P12.1: images that are no triangles of coarse, as nothing has their corners, or only
// one that is turned round.
func TestP12_1ImageOfThree(t *testing.T) {
	a, b, c := at(0, 0, 0), at(10, 0, 0), at(0, 10, 0)
	forgotten().wants(t, 0, api.ErrCover)
	turnedRound(forgotten()).wants(t, 0, api.ErrCover)
	claim{tetrahedron(9), turned(tetrahedron(9)), nil}.wants(t, 0, api.ErrCover)
	claim{tetrahedron(9), nil, nil}.wants(t, 0, api.ErrCover)
	claim{leaf(a, b, c), leaf(a, b, at(0, 11, 0)), nil}.wants(t, 0, api.ErrCover)
	claim{leaf(a, b, c), leaf(a, c, b), nil}.wants(t, 0, api.OK) // the same triangles
	// A second leaf moves onto the first one, whose triangles are then images of two.
	u, v, w := at(50, 0, 0), at(60, 0, 0), at(50, 10, 0)
	claim{append(leaf(a, b, c), leaf(u, v, w)...), leaf(a, b, c), []api.Move{move(u, a), move(w, c), move(v, b)}}.wants(t, 0, api.ErrCover)
	// A tetrahedron moves onto another one, turned round.
	d := doubled()
	d.moves[0].To, d.moves[1].To = d.moves[1].To, d.moves[0].To
	d.wants(t, 0, api.ErrCover)
	// A corner of fine that is no corner of coarse, and has no move.
	for _, moves := range [][]api.Move{nil, {move(at(101, 0, 0), a)}, {move(at(101, 0, 0), a), move(at(102, 0, 0), a)}} {
		g := gathered(at(101, 0, 0), at(102, 0, 0), at(103, 0, 0))
		claim{g.fine, g.coarse, moves}.wants(t, 0, api.ErrCover)
	}
}

// P12.1: images with two different corners, which coarse joins, or not: by an edge in one
// direction, in both, or by none.
func TestP12_1ImageOfTwo(t *testing.T) {
	torn().wants(t, 0, api.ErrCover)
	u, v, w := at(101, 0, 0), at(102, 0, 0), at(103, 0, 0)
	l := octahedron(9)
	corners := []api.Point{at(-9, 0, 0), at(0, -9, 0), at(0, 0, -9), at(0, 0, 9), at(0, 9, 0), at(9, 0, 0)}
	for _, p := range corners {
		for _, q := range corners {
			c := claim{append(leaf(u, v, w), l...), l, []api.Move{move(u, p), move(v, q), move(w, q)}}
			if opposite := at(-p.X, -p.Y, -p.Z); q == opposite {
				c.wants(t, 0, api.ErrCover)
				continue
			}
			c.wants(t, int(refBound(c).Int64()), api.OK)
		}
	}
	// An edge of the border is there in one direction only.
	ring := ringOf(4, 40)
	for _, p := range ring {
		for _, q := range ring {
			half := fan(ring[0], ring[1:]...)
			c := claim{append(leaf(u, v, w), half...), half, []api.Move{move(u, p), move(v, q), move(w, q)}}
			if p != q && !slices.Contains([]api.Point{p, q}, ring[0]) && !slices.Contains([]api.Point{p, q}, ring[2]) {
				c.wants(t, 0, api.ErrCover)
				continue
			}
			c.wants(t, int(refBound(c).Int64()), api.OK)
		}
	}
}

// P12.1: images of one corner.
func TestP12_1ImageOfOne(t *testing.T) {
	gathered(at(-5, 0, 0), at(0, -5, 0), at(0, 0, -5)).wants(t, 5, api.OK)
	vanished().wants(t, 0, api.ErrCover) // the triangles of coarse are images of none
	c := gathered(at(-5, 0, 0), at(0, -5, 0), at(0, 0, -5))
	for k := range c.moves {
		c.moves[k].To = at(77, 7, 7)
	}
	c.wants(t, 0, api.ErrMove) // a corner of neither
	for k := range c.moves {
		c.moves[k].To = at(0, 0, 30)
	}
	c.wants(t, 35, api.OK)
}

// P12.1: triangles of coarse that are images of none, of one, of two.
func TestP12_1ImagesOnce(t *testing.T) {
	doubled().wants(t, 0, api.ErrCover)
	vanished().wants(t, 0, api.ErrCover)
	f := forgotten()
	claim{f.coarse, f.fine, nil}.wants(t, 0, api.ErrCover) // a part that is new
	claim{nil, tetrahedron(9), nil}.wants(t, 0, api.ErrCover)
	claim{tetrahedron(9), append(tetrahedron(9), leaf(at(60, 0, 0), at(70, 0, 0), at(60, 5, 0))...), nil}.wants(t, 0, api.ErrCover)
	// Of three equal tetrahedra, one stays, one moves onto it, and one onto a point of it.
	by := at(-60, 0, 0)
	d := doubled()
	third := claim{fine: shifted(tetrahedron(9), by)}
	for _, p := range []api.Point{at(0, 0, 0), at(0, 0, 9), at(0, 9, 0), at(9, 0, 0)} {
		third.moves = append(third.moves, move(sum(p, by), at(0, 0, 0)))
	}
	joint(d, third).wants(t, 0, api.ErrCover)
	joint(unchanged(tetrahedron(9)), third).wants(t, 61, api.OK) // from -60, 0, 9: 60.7
}
