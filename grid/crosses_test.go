package grid_test

import (
	"math"
	"slices"
	"testing"

	"lithophane/api"
	"lithophane/grid"
)

// first is the first triangle of the document's examples; it crosses firstEdge at level 1.
func first() api.Tri { return api.Tri{at(half, 0, 0), at(half, most, 0), at(half, most, most)} }

func firstEdge() api.Edge { return edge(0, 1, 1, 1) }

// P6.1: whether an edge is crossed is what follows from the definitions.
func TestP6_1Crosses(t *testing.T) {
	g := generator(61)
	var crossed, all int
	check := func(s api.Tri, edges []api.Edge, level int) {
		reference := refTriangleOf(s)
		for _, e := range edges {
			want := reference.crosses(e, level)
			if grid.Crosses(s, e, level) != want {
				t.Fatalf("Crosses of %v, %+v, level %d: %v", s, e, level, !want)
			}
			all++
			if want {
				crossed++
			}
		}
	}
	for range 1000 {
		check(g.triangle(1), allEdges(1), 1)
	}
	for _, level := range levels() {
		for range 200 {
			s := g.nearby(level)
			check(s, around(s, level), level)
		}
	}
	if crossed < 1500 || all-crossed < 50000 {
		t.Errorf("%d of %d edges are crossed", crossed, all)
	}
}

// P6.1: levels that do not exist.
func TestP6_1NoLevel(t *testing.T) {
	for _, level := range []int{math.MinInt, math.MinInt + 1, -64, -8, -1, 0, 9, 10, 20, 21, 22, 63, 64, 65, math.MaxInt} {
		for _, e := range append(allEdges(1), edge(0, 0, 0, 0), edge(0, 128, 128, 128), edge(0, 256, 256, 256)) {
			if grid.Crosses(first(), e, level) {
				t.Errorf("Crosses of %+v, level %d", e, level)
			}
		}
	}
}

// P6.1: at each level from 1 to 8, the first triangle crosses the edges of the lines
// for which y is at least z, as the movement is farther along y.
func TestP6_1Levels(t *testing.T) {
	for _, level := range levels() {
		n := cells(level)
		for _, line := range [][2]int{{1, 1}, {n / 2, n / 2}, {n - 1, n - 1}, {n - 1, 1}, {n/2 + 1, n / 2}, {n / 2, n/2 + 1}, {1, n}, {n, 1}, {0, 0}, {n, n}} {
			for _, x := range []int{0, n/2 - 1, n / 2, n - 1} {
				e := edge(0, x, line[0], line[1])
				want := x == n/2 && 1 <= line[1] && line[1] <= line[0] && line[0] < n
				if grid.Crosses(first(), e, level) != want {
					t.Errorf("Crosses of %+v, level %d: %v", e, level, !want)
				}
			}
		}
	}
}

// wrapped are numbers that are 0, if they are multiplied by what the coordinates of
// vertices are multiplied by, and wrap around.
func wrapped(level int) []int {
	bits := 64 - (api.CoordBits - level)
	return []int{1 << bits, -1 << bits, 1 << (bits - 1), -1 << (bits - 1), 3 << (bits - 1), math.MinInt}
}

// P6.1: edges that do not exist, though they would be crossed if their axes were
// taken for others, or the numbers of their vertices wrapped around.
func TestP6_1NoEdge(t *testing.T) {
	for _, level := range levels() {
		for axis := range 3 {
			n := cells(level)
			s := walls(axis)[7] // the second half of the square at half
			p := with(at(n-1, n-1, n-1), axis, n/2)
			if !grid.Crosses(s, edge(axis, p.X, p.Y, p.Z), level) {
				t.Fatalf("Crosses of %v, axis %d, %v, level %d: false", s, axis, p, level)
			}
			for _, other := range []int{math.MinInt, axis - 6, axis - 3, -2, -1, 3, 4, 5, axis + 6, 256, math.MaxInt} {
				if grid.Crosses(s, edge(other, p.X, p.Y, p.Z), level) {
					t.Errorf("Crosses of %v, %v, level %d: axis %d", s, p, level, other)
				}
			}
			for _, by := range wrapped(level) {
				for along := range 3 {
					q := plus(p, along, by)
					if grid.Crosses(s, edge(axis, q.X, q.Y, q.Z), level) {
						t.Errorf("Crosses of %v, axis %d, %v, level %d", s, axis, q, level)
					}
				}
			}
		}
	}
}

// P6.1: the ends of edges are vertices: no triangle crosses an edge before the first
// vertex of an axis, or behind the last one, from which no edge leads on.
func TestP6_1LastVertices(t *testing.T) {
	for _, level := range levels() {
		n := cells(level)
		for axis := range 3 {
			for _, number := range []int{math.MinInt, math.MinInt + 1, -n, -2, -1, n, n + 1, 2 * n, math.MaxInt - 1, math.MaxInt} {
				for _, s := range walls(axis) {
					for along := range 3 {
						p := with(at(n/2, n/2, n/2), along, number)
						if grid.Crosses(s, edge(axis, p.X, p.Y, p.Z), level) {
							t.Errorf("Crosses of %v, axis %d, %v, level %d", s, axis, p, level)
						}
					}
				}
			}
		}
	}
}

// walls returns triangles that are normal to the axis, at both ends and in the
// middle, two for each place.
func walls(axis int) []api.Tri {
	var l []api.Tri
	for _, x := range []int{0, 1, half - 1, half, most - 1, most} {
		p := with(at(0, 0, 0), axis, x)
		q, r := with(p, (axis+1)%3, most), with(p, (axis+2)%3, most)
		l = append(l, api.Tri{p, q, r}, api.Tri{with(q, (axis+2)%3, most), r, q})
	}
	return l
}

// P6.1: the first and the last edges of the lines are crossed at the coordinates 0
// and MaxCoord; lines at the ends of the other axes are beside all triangles.
func TestP6_1Ends(t *testing.T) {
	for _, level := range levels() {
		for axis := range 3 {
			for square := range slices.Chunk(walls(axis), 2) {
				checkWall(t, square, axis, level)
			}
		}
	}
}

// checkWall checks that of the edges of lines in the middle exactly those on which
// the square lies are crossed, by exactly one of its two triangles, and that no edge
// of a line at an end is.
func checkWall(t *testing.T, square []api.Tri, axis, level int) {
	t.Helper()
	n := cells(level)
	number := coordinates(square[0][0])[axis] / size(level)
	for _, line := range [][2]int{{1, 1}, {1, n - 1}, {n / 2, n / 2}, {n - 1, n - 1}, {0, 1}, {1, 0}, {0, 0}, {n, 1}, {1, n}, {n, n}, {0, n}} {
		isMiddle := min(line[0], line[1]) > 0 && max(line[0], line[1]) < n
		for _, k := range []int{0, n/2 - 1, n / 2, n - 1} {
			p := with(with(with(at(0, 0, 0), axis, k), (axis+1)%3, line[0]), (axis+2)%3, line[1])
			e := edge(axis, p.X, p.Y, p.Z)
			one, other := grid.Crosses(square[0], e, level), grid.Crosses(square[1], e, level)
			if want := isMiddle && k == number; one && other || (one || other) != want {
				t.Errorf("Crosses of %v, %+v, level %d: %v, %v", square, e, level, one, other)
			}
		}
	}
}

// notAdmitted returns triangles that would cross the first edge if they were admitted.
func notAdmitted() []api.Tri {
	var l []api.Tri
	for corner := range 3 {
		for axis := range 3 {
			x := coordinates(first()[corner])[axis]
			for _, to := range []int{-1, most + 1, 1 << 22, math.MinInt, math.MinInt + 1, math.MaxInt, x + math.MinInt, x + 1<<62, x - 1<<62} {
				s := first()
				s[corner] = with(s[corner], axis, to)
				l = append(l, s)
			}
		}
	}
	return l
}

// flat returns triangles without area on the line of the first edge, or through it.
func flat() []api.Tri {
	p, q, r := at(half-2, half, half), at(half, half, half), at(half+2, half, half)
	o, m := at(half-3, half-3, half-3), at(half+4, half+4, half+4)
	return []api.Tri{
		{p, q, r}, {q, p, r}, {p, r, q}, {p, p, p}, {p, p, r}, {p, r, p}, {r, p, p}, {o, q, m}, {o, m, q}, {o, m, o}, {o, o, m},
		{at(0, 0, 0), at(0, 0, 1), at(0, 0, 2)}, {at(0, half, half), at(0, half, half), at(most, half, half)}, {},
	}
}

// P6.1: triangles with coordinates that are not permitted, and flat ones, cross no edge.
func TestP6_1NotAdmitted(t *testing.T) {
	for _, s := range append(notAdmitted(), flat()...) {
		for _, e := range allEdges(1) {
			if grid.Crosses(s, e, 1) {
				t.Errorf("Crosses of %v, %+v", s, e)
			}
		}
	}
}

// P6.1: the coordinates 0 and MaxCoord are permitted, for each corner.
func TestP6_1Permitted(t *testing.T) {
	for _, s := range orders(first()) {
		if !grid.Crosses(s, firstEdge(), 1) {
			t.Errorf("Crosses of %v: false", s)
		}
	}
	for _, s := range []api.Tri{
		{at(0, 0, 0), at(0, most, 0), at(most, most, most)},
		{at(0, 0, 0), at(most, most, 0), at(most, most, most)},
		{at(most, 0, 0), at(0, most, 0), at(most, most, most)},
	} {
		crossed := 0
		for _, e := range allEdges(2) {
			if grid.Crosses(s, e, 2) {
				crossed++
			}
		}
		if crossed == 0 {
			t.Errorf("Crosses of %v: no edge", s)
		}
	}
}
