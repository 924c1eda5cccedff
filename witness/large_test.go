package witness_test

import (
	"slices"
	"testing"

	"lithophane/api"
	"lithophane/mesh"
)

// coarser returns the claim that every second row of a sheet moves to the one before it.
func coarser(n, m int, place func(i, j int) api.Point) claim {
	c := claim{fine: sheet(n, m, place)}
	ends := map[api.Point]api.Point{}
	for i := 1; i < n; i += 2 {
		for j := range m {
			from, to := place(i, j), place(i-1, j)
			ends[from] = to
			c.moves = append(c.moves, move(from, to))
		}
	}
	for _, tri := range c.fine {
		for k, p := range tri {
			if to, found := ends[p]; found {
				tri[k] = to
			}
		}
		if tri[0] != tri[1] && tri[1] != tri[2] && tri[2] != tri[0] {
			c.coarse = append(c.coarse, tri)
		}
	}
	c.moves = ordered(c.moves)
	return c
}

// P12.1: large closed surfaces, half of whose corners move.
func TestP12_1Large(t *testing.T) {
	g := generator(71)
	n, m := 200, 160
	c := coarser(n, m, func(i, j int) api.Point { return at(10*(i%n), 10*(j%m), (i%n)*(j%m)%7) })
	if len(c.fine) != 2*n*m || len(c.coarse) != n*m || mesh.Check(c.coarse) != api.OK {
		t.Fatalf("%d triangles become %d, %v", len(c.fine), len(c.coarse), mesh.Check(c.coarse))
	}
	c.fine, c.coarse = g.shuffled(c.fine), g.shuffled(c.coarse)
	c.wants(t, 12, api.OK) // up to 6 along z
	claim{c.fine, c.coarse, c.moves[1:]}.wants(t, 0, api.ErrCover)
	claim{c.fine, c.coarse, append(c.moves[1:2:2], c.moves...)}.wants(t, 0, api.ErrMove)
	claim{c.fine, c.coarse[1:], c.moves}.wants(t, 0, api.ErrBorder)
	claim{c.fine, append(c.coarse[:len(c.coarse):len(c.coarse)], c.coarse[0]), c.moves}.wants(t, 0, api.ErrEdge)
	claim{c.fine, append(c.coarse[:len(c.coarse):len(c.coarse)], shifted(tetrahedron(3), at(0, 0, 99))...), c.moves}.wants(t, 0, api.ErrCover)
	claim{append(c.fine[:len(c.fine):len(c.fine)], shifted(tetrahedron(3), at(0, 0, 99))...), c.coarse, c.moves}.wants(t, 0, api.ErrCover)
}

// P12.1: corners with many triangles, on the border and inside, and with many fans.
func TestP12_1LargeFans(t *testing.T) {
	g := generator(72)
	fine, inner := strip(20000)
	last := inner[len(inner)-1]
	var moves []api.Move
	coarse := slices.DeleteFunc(placed(fine, func(p api.Point) api.Point {
		if p.Y == 10 && p.X > 0 && p.X < last.X {
			return last
		}
		return p
	}), func(tri api.Tri) bool { return tri[0] == tri[1] || tri[1] == tri[2] || tri[2] == tri[0] })
	for _, p := range inner[:len(inner)-1] {
		moves = append(moves, move(p, last))
	}
	claim{g.shuffled(fine), g.shuffled(coarse), moves}.wants(t, last.X-10, api.OK)
	var several []api.Tri
	for i := range 20000 {
		several = append(several, api.Tri{at(0, 0, 0), at(i, 10, 0), at(i, 20, 0)})
	}
	claim{several, g.shuffled(several), nil}.wants(t, 0, api.OK)
	claim{several, g.shuffled(several[1:]), nil}.wants(t, 0, api.ErrBorder)
	ring := ringOf(20000, 1<<30)
	hub := wheel(at(0, 0, 9), ring...)
	claim{hub, g.shuffled(hub), nil}.wants(t, 0, api.OK)
	claim{hub, fan(ring[0], ring[1:]...), []api.Move{move(at(0, 0, 9), ring[0])}}.wants(t, 0, api.ErrBorder)
	double := bipyramid(20000, 1<<30, 5)
	claim{double, g.shuffled(double), nil}.wants(t, 0, api.OK)
}
