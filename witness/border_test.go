package witness_test

import (
	"slices"
	"testing"

	"lithophane/api"
	"lithophane/mesh"
)

// P12.1: the documents' examples, and the distance to the other corners.
func TestP12_1Examples(t *testing.T) {
	c := divided(at(3, 4, 1))
	e, a, b, d := at(3, 4, 1), at(0, 0, 0), at(30, 0, 0), at(0, 0, 30)
	for _, x := range []struct {
		moves  []api.Move
		number int
		kind   api.Errno
	}{
		{[]api.Move{move(e, a)}, 6, api.OK}, {[]api.Move{move(e, b)}, 28, api.OK}, {[]api.Move{move(e, d)}, 0, api.ErrCover}, {nil, 0, api.ErrCover},
		{[]api.Move{move(d, a)}, 0, api.ErrCover},
	} {
		claim{c.fine, c.coarse, x.moves}.wants(t, x.number, x.kind)
	}
}

// P12.1: for each error of mesh.CheckOpen, lists with it: alone, and beside others.
func TestP12_1Surfaces(t *testing.T) {
	good := tetrahedron(9)
	faults := refused()
	for kind, l := range faults {
		for _, bad := range [][]api.Tri{l, append(l, good...), append(slices.Clone(good), l...)} {
			claim{bad, nil, nil}.wants(t, 0, kind)
			claim{nil, bad, nil}.wants(t, 0, kind)
			claim{bad, good, nil}.wants(t, 0, kind)
			claim{good, bad, nil}.wants(t, 0, kind)
			claim{bad, bad, nil}.wants(t, 0, kind)
			claim{bad, bad, []api.Move{move(at(1, 2, 3), at(1, 2, 3))}}.wants(t, 0, kind)
			for other, l := range faults {
				claim{bad, l, nil}.wants(t, 0, kind)
				claim{l, bad, nil}.wants(t, 0, other)
			}
		}
	}
}

// P12.1: borders that differ, by a few edges or all, by their direction, or as there is none.
func TestP12_1Borders(t *testing.T) {
	a, b, c, d := at(0, 0, 0), at(10, 0, 0), at(0, 10, 0), at(5, 9, 0)
	far := shifted(tris(a, b, c), at(90, 0, 0))
	lists := [][]api.Tri{
		nil, tris(a, b, c), tris(a, c, b), tris(a, b, d), tris(a, b, d, b, c, d), tris(a, b, d, a, d, c), tetrahedron(10)[:3], far,
		append(tris(a, b, c), far...), append(tris(a, c, b), far...), append(tris(a, b, c), turned(far)...), append(shifted(octahedron(10), at(50, 50, 0)), tris(a, b, c)...),
	}
	for i, fine := range lists {
		for j, coarse := range lists {
			want := api.ErrBorder
			if slices.Equal(mesh.Border(fine), mesh.Border(coarse)) {
				want = api.ErrCover
			}
			if i == j {
				want = api.OK
			}
			claim{fine, coarse, nil}.wants(t, 0, want)
		}
	}
	for _, l := range [][]api.Tri{tetrahedron(9), octahedron(9), torus(5, 4, 40, 10)} {
		more := append(slices.Clone(l), far...)
		claim{l, l[1:], nil}.wants(t, 0, api.ErrBorder)
		claim{l[1:], l, nil}.wants(t, 0, api.ErrBorder)
		claim{l[1:], without(l, 1), nil}.wants(t, 0, api.ErrBorder)
		claim{l[1:], l[2:], nil}.wants(t, 0, api.ErrBorder)
		claim{l[2:], l[1:], nil}.wants(t, 0, api.ErrBorder)
		claim{l, more, nil}.wants(t, 0, api.ErrBorder)
		claim{more, l, nil}.wants(t, 0, api.ErrBorder)
	}
}

// P12.1: two border corners that only coarse joins.
func TestP12_1JoinedAnew(t *testing.T) {
	for spokes := 4; spokes < 9; spokes++ {
		taken(spokes).wants(t, 0, api.ErrBorder)
		turnedRound(taken(spokes)).wants(t, 0, api.ErrBorder)
	}
	taken(3).wants(t, 41, api.OK) // no edge is new: 39, -2, -9
	turnedRound(taken(3)).wants(t, 41, api.OK)
	// The two halves of a square: each joins what the other one does not.
	square := ringOf(4, 40)
	one, other := fan(square[0], square[1:]...), fan(square[1], square[2], square[3], square[0])
	claim{one, other, nil}.wants(t, 0, api.ErrBorder)
	claim{other, one, nil}.wants(t, 0, api.ErrBorder)
	unchanged(one).wants(t, 0, api.OK) // an inner edge joins two corners in both
}

// turnedRound returns the claim with all triangles turned round.
func turnedRound(c claim) claim { return claim{turned(c.fine), turned(c.coarse), c.moves} }

// P12.1: corners of two parts of the border.
func TestP12_1JoinedAcross(t *testing.T) {
	fine := tube(4, 3, 40, 30)
	corner := func(i, j int) api.Point { return sum(ringOf(4, 40)[i], at(0, 0, 30*j)) }
	down, up := move(corner(1, 1), corner(1, 0)), move(corner(1, 2), corner(1, 3))
	middle := collapsed(fine, down)
	claim{fine, middle, []api.Move{down}}.wants(t, 30, api.OK) // to one border, still away from the other one
	claim{fine, collapsed(fine, up), []api.Move{up}}.wants(t, 30, api.OK)
	claim{middle, collapsed(middle, up), []api.Move{up}}.wants(t, 0, api.ErrBorder)
	claim{fine, collapsed(middle, up), []api.Move{down, up}}.wants(t, 0, api.ErrBorder)
}

// collapsed returns the triangles with one corner moved.
func collapsed(l []api.Tri, m api.Move) []api.Tri {
	return slices.DeleteFunc(with(l, m.From, m.To), func(tri api.Tri) bool { return len(mesh.Corners([]api.Tri{tri})) < 3 })
}

// P12.1: two border corners that only fine joins are no fault of the border; but then no
// triangle of coarse is the image of that with both.
func TestP12_1JoinedBefore(t *testing.T) {
	square := ringOf(4, 40)
	claim{fan(square[0], square[1:]...), wheel(at(0, 0, 9), square...), nil}.wants(t, 0, api.ErrCover)
	claim{fan(square[0], square[1:]...), wheel(at(0, 0, 9), square...), []api.Move{move(square[0], square[1])}}.wants(t, 0, api.ErrMove)
}

// P12.1: at a corner with two fans, each must end where it did.
func TestP12_1Fans(t *testing.T) {
	c := crossing()
	c.wants(t, 0, api.ErrBorder)
	turnedRound(c).wants(t, 0, api.ErrBorder)
	claim{c.fine, c.coarse, nil}.wants(t, 0, api.ErrBorder)
	claim{c.coarse, c.fine, nil}.wants(t, 0, api.ErrBorder)
	unchanged(c.fine).wants(t, 0, api.OK)
	unchanged(c.coarse).wants(t, 0, api.OK)
}

// P12.1: corners with several fans, each of which ends where it did.
func TestP12_1SeveralFans(t *testing.T) {
	p := at(0, 0, 0)
	var fine, coarse []api.Tri
	var moves []api.Move
	for k := range 5 {
		hub, a, b := at(5+k, 100*k, 5), at(10+k, 100*k-20, 0), at(10+k, 100*k+20, 0)
		fine = append(fine, wheel(hub, p, a, b)...)
		coarse = append(coarse, tris(p, a, b)...)
		moves = append(moves, move(hub, a))
		g := generator(12)
		claim{g.shuffled(fine), g.shuffled(coarse), moves}.wants(t, 22, api.OK) // 5, 20, 5
		unchanged(g.shuffled(fine)).wants(t, 0, api.OK)
	}
	claim{fine, append(coarse[:4:4], turned(coarse[4:])...), moves}.wants(t, 0, api.ErrBorder)
}

// strip is a surface with a fan of n+1 triangles at a corner of its border, and a second
// row of triangles behind them; and its n inner corners.
func strip(n int) ([]api.Tri, []api.Point) {
	var near, far []api.Point
	for i := range n + 2 {
		near, far = append(near, at(10*i, 10, 0)), append(far, at(10*i, 20, 0))
	}
	l := fan(at(0, 0, 0), near...)
	for i := range n + 1 {
		l = append(l, tris(near[i], far[i], far[i+1], near[i], far[i+1], near[i+1])...)
	}
	return l, near[1 : n+1]
}

// P12.1: fans that begin and end alike, with more or fewer triangles in between.
func TestP12_1FansAlike(t *testing.T) {
	for n := 2; n < 9; n++ {
		fine, inner := strip(n)
		last := n - 1
		coarse := fine
		var moves []api.Move
		for k := range last {
			moves = append(moves, move(inner[k], inner[last]))
			coarse = collapsed(coarse, moves[k])
		}
		if len(coarse) != len(fine)-2*last {
			t.Fatalf("%d triangles become %d", len(fine), len(coarse))
		}
		claim{fine, coarse, moves}.wants(t, 10*last, api.OK)
		turnedRound(claim{fine, coarse, moves}).wants(t, 10*last, api.OK)
		claim{coarse, fine, nil}.wants(t, 0, api.ErrCover)
	}
}

// P12.1: fans of one triangle.
func TestP12_1FansOfOne(t *testing.T) {
	a, b, c, d, e := at(0, 0, 0), at(10, 0, 0), at(0, 10, 0), at(-10, 0, 0), at(0, -10, 0)
	for _, l := range [][]api.Tri{tris(a, b, c), tris(a, b, c, a, d, e), tris(a, b, c, a, c, d), tris(a, b, c, a, c, d, a, d, e)} {
		unchanged(l).wants(t, 0, api.OK)
		unchanged(turned(l)).wants(t, 0, api.OK)
		claim{l, turned(l), nil}.wants(t, 0, api.ErrBorder)
	}
	claim{tris(a, b, c, a, d, e), tris(a, b, e, a, d, c), nil}.wants(t, 0, api.ErrBorder)
	// The borders are equal, but the two fans at a end crosswise.
	claim{tris(a, b, c, a, d, e), tris(a, b, e, b, c, e, a, d, c, d, e, c), nil}.wants(t, 0, api.ErrBorder)
}
