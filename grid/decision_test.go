package grid_test

import (
	"cmp"
	"math/big"
	"slices"
	"testing"

	"lithophane/api"
	"lithophane/grid"
)

// cases counts what decided: P6.3 names these cases.
type cases struct {
	planes     int    // scalar products that are 0
	components [3]int // the first coordinate of the normal that is not 0, for these
	lines      [3]int // du pw - dw pu is 0, by the sign of dw
	parallel   int    // and dw is 0, too
}

// decided is P6.3 as it is written.
func decided(t api.Tri, e api.Edge, level int, count *cases) bool {
	u, w := others(e.Axis)
	p, q := doubledVertex(start(e), level), doubledVertex(end(e), level)
	var corners [3][3]int
	for i := range t {
		corners[i] = coordinates(at(2*t[i].X, 2*t[i].Y, 2*t[i].Z))
	}
	sideOfP, sideOfQ := sideOf(corners, p, count), sideOf(corners, q, count)
	sum := 0
	for i, r := range corners {
		s := corners[(i+1)%3]
		sum += signOfSide(s[u]-r[u], s[w]-r[w], p[u]-r[u], p[w]-r[w], count)
	}
	return sideOfP != sideOfQ && (sum == 3 || sum == -3)
}

// others returns the axes beside the axis, in ascending order.
func others(axis int) (u, w int) {
	u, w = (axis+1)%3, (axis+2)%3
	return min(u, w), max(u, w)
}

func doubledVertex(p api.Point, level int) [3]int {
	h := size(level)
	return [3]int{2*p.X*h - 1, 2*p.Y*h - 1, 2*p.Z*h - 1}
}

// sideOf is the sign for an end of an edge.
func sideOf(corners [3][3]int, p [3]int, count *cases) int {
	integers := func(x [3]int) vector {
		return vector{big.NewInt(int64(x[0])), big.NewInt(int64(x[1])), big.NewInt(int64(x[2]))}
	}
	c := integers(corners[0])
	normal := integers(corners[1]).minus(c).cross(integers(corners[2]).minus(c))
	if sign := normal.dot(integers(p).minus(c)).Sign(); sign != 0 {
		return sign
	}
	count.planes++
	first := slices.IndexFunc(normal[:], func(x *big.Int) bool { return x.Sign() != 0 })
	count.components[first]++
	return normal[first].Sign()
}

// signOfSide is the sign for a side of the triangle.
func signOfSide(du, dw, pu, pw int, count *cases) int {
	switch sign := cmp.Compare(du*pw-dw*pu, 0); {
	case sign != 0:
		return sign
	case dw != 0:
		count.lines[1+cmp.Compare(dw, 0)]++
		return cmp.Compare(0, dw)
	}
	count.parallel++
	return cmp.Compare(du, 0)
}

// P6.3: the signs decide as they are written, in all cases.
func TestP6_3Decision(t *testing.T) {
	g := generator(631)
	var count cases
	for level, rounds := range []int{0, 4000, 1000, 100} {
		for range rounds {
			s := g.triangle(level)
			if !refTriangleOf(s).isAdmitted {
				continue
			}
			for _, e := range around(s, level) {
				if want := decided(s, e, level, &count); grid.Crosses(s, e, level) != want {
					t.Fatalf("Crosses of %v, %+v, level %d: %v", s, e, level, !want)
				}
			}
		}
	}
	if min(count.planes, count.components[0], count.components[1], count.lines[0], count.lines[2], count.parallel) < 1000 {
		t.Errorf("cases: %+v", count)
	}
}

// P6.3: what the movement decides at the vertex 1 1 1 of level 1: before it, the
// vertex lies in the planes of all the triangles, and in lines with sides of most.
func TestP6_3Vertex(t *testing.T) {
	for _, x := range []struct {
		t    api.Tri
		want []api.Edge
	}{
		{api.Tri{at(most, 0, 0), at(0, most, 0), at(0, most, most)}, []api.Edge{edge(0, 0, 1, 1)}},
		{api.Tri{at(0, most, 0), at(most, 0, 0), at(most, 0, most)}, []api.Edge{edge(1, 1, 0, 1)}},
		{api.Tri{at(0, 0, 0), at(most, most, 0), at(most, most, most)}, []api.Edge{edge(0, 0, 1, 1), edge(1, 1, 1, 1)}},
		{api.Tri{at(0, 0, 0), at(0, 0, most), at(most, most, most)}, nil},
		{api.Tri{at(0, 0, most), at(most, 0, most), at(most, most, 0)}, []api.Edge{edge(1, 1, 0, 1), edge(2, 1, 1, 0)}},
		{api.Tri{at(0, 0, 0), at(most, 0, 0), at(most, most, most)}, []api.Edge{edge(1, 1, 0, 1), edge(2, 1, 1, 1)}},
		{api.Tri{at(0, 0, 0), at(0, most, most), at(most, most, most)}, nil},
		{api.Tri{at(0, 0, 0), at(most, 0, most), at(most, most, most)}, []api.Edge{edge(2, 1, 1, 1)}},
		{api.Tri{at(0, 0, 0), at(most, most, most), at(0, most, 0)}, []api.Edge{edge(0, 0, 1, 1)}},
		{api.Tri{at(0, 0, 0), at(most, most, most), at(most-1, 0, half-1)}, []api.Edge{edge(1, 1, 0, 1), edge(2, 1, 1, 1)}},
		{api.Tri{at(0, 0, 0), at(most, most, most), at(0, most-1, half-1)}, []api.Edge{edge(0, 0, 1, 1)}},
		{api.Tri{at(0, 0, 0), at(most, most, most), at(most-1, half-1, 0)}, []api.Edge{edge(0, 0, 1, 1), edge(1, 1, 1, 1), edge(2, 1, 1, 0)}},
	} {
		checkOrders(t, x.t, x.want)
	}
}

// P6.3: a line passes between four corners, and through the diagonals of their
// square: it is moved to the triangle that is farther along the lesser axis, or to
// the one that is farther along both.
func TestP6_3Diagonals(t *testing.T) {
	for axis := range 3 {
		u, w := others(axis)
		for _, depth := range []int{0, 77, half - 1, half, most} {
			p := with(at(half-1, half-1, half-1), axis, depth)
			pu, pw := plus(p, u, 1), plus(p, w, 1)
			puw := plus(pu, w, 1)
			e := with(at(1, 1, 1), axis, depth/half)
			want := []api.Edge{edge(axis, e.X, e.Y, e.Z)}
			checkOrders(t, api.Tri{p, pu, puw}, want)
			checkOrders(t, api.Tri{p, pw, puw}, nil)
			checkOrders(t, api.Tri{pu, pw, puw}, want)
			checkOrders(t, api.Tri{pu, pw, p}, nil)
		}
	}
}

// checkOrders checks which edges of level 1 a triangle crosses, with its corners in
// all orders.
func checkOrders(t *testing.T, s api.Tri, want []api.Edge) {
	t.Helper()
	for _, same := range orders(s) {
		checkCross(t, []api.Tri{same}, 1, want)
		for _, e := range allEdges(1) {
			if isCrossed := slices.Contains(want, e); grid.Crosses(same, e, 1) != isCrossed {
				t.Errorf("Crosses of %v, %+v: %v", same, e, !isCrossed)
			}
		}
	}
}

// P6.3: a triangle with a side that is parallel to an axis is in a plane with lines
// along it, and crosses none of their edges, however near they are.
func TestP6_3Parallel(t *testing.T) {
	g := generator(632)
	var count cases
	for range 2000 {
		axis := g.below(3)
		p := g.point(2)
		q := with(p, axis, g.coordinate(2))
		s := pick(&g, orders(api.Tri{p, q, g.point(2)}))
		if !refTriangleOf(s).isAdmitted {
			continue
		}
		for _, e := range grid.Cross([]api.Tri{s}, 2) {
			if e.Axis == axis {
				t.Fatalf("Cross of %v: %+v", s, e)
			}
		}
		for _, e := range allEdges(2) {
			if e.Axis != axis {
				continue
			}
			if decided(s, e, 2, &count) || grid.Crosses(s, e, 2) {
				t.Fatalf("Crosses of %v: %+v", s, e)
			}
		}
	}
	if min(count.planes, count.parallel) < 1000 {
		t.Errorf("cases: %+v", count)
	}
}
