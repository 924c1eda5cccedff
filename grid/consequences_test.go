package grid_test

import (
	"slices"
	"testing"

	"lithophane/api"
	"lithophane/exact"
	"lithophane/grid"
	"lithophane/mesh"
)

// P6.4: the order of the triangles, and the order of their corners, play no part.
func TestP6_4Orders(t *testing.T) {
	g := generator(641)
	for _, level := range []int{1, 2, 4, 6} {
		for range 40 {
			l := g.triangles(level, 1+g.below(8))
			want := grid.Cross(l, level)
			for i := range l {
				j := g.below(i + 1)
				l[i], l[j] = pick(&g, orders(l[j])), pick(&g, orders(l[i]))
			}
			checkCross(t, l, level, want)
		}
	}
}

// P6.4: so for Crosses, for each order of the corners.
func TestP6_4OrdersOfCorners(t *testing.T) {
	g := generator(642)
	crossed := 0
	for range 400 {
		s := g.triangle(2)
		want := grid.Cross([]api.Tri{s}, 2)
		crossed += len(want)
		for _, same := range orders(s) {
			for _, e := range around(s, 2) {
				if grid.Crosses(same, e, 2) != slices.Contains(want, e) {
					t.Fatalf("Crosses of %v, %+v; %v", same, e, s)
				}
			}
		}
	}
	if crossed < 500 {
		t.Errorf("edges that are crossed: %d", crossed)
	}
}

// onlyOnce returns the edges that occur an odd number of times.
func onlyOnce(l []api.Edge) []api.Edge {
	odd := map[api.Edge]bool{}
	for _, e := range l {
		odd[e] = !odd[e]
	}
	only := slices.DeleteFunc(slices.Clone(l), func(e api.Edge) bool { return !odd[e] })
	slices.SortFunc(only, compareEdges)
	return slices.Compact(only)
}

// P6.4: two lists together cross the edges that occur in exactly one of the results.
func TestP6_4TwoLists(t *testing.T) {
	g := generator(643)
	common := 0
	for _, level := range levels()[:6] {
		for range 20 {
			l, m := g.triangles(level, g.below(6)), g.triangles(level, g.below(6))
			m = append(m, l[:g.below(len(l)+1)]...)
			both := slices.Concat(grid.Cross(l, level), grid.Cross(m, level))
			want := onlyOnce(both)
			common += len(both) - len(want)
			checkCross(t, slices.Concat(l, m), level, want)
			checkCross(t, slices.Concat(m, l), level, want)
			checkCross(t, slices.Concat(l, m, l), level, grid.Cross(m, level))
		}
	}
	if common < 1000 {
		t.Errorf("edges in both results: %d", common/2)
	}
}

// lattice is a triangle with points on it: a, b and c are its corners, and the
// vectors from a to the others are multiples of count.
type lattice struct {
	a, b, c api.Point
	count   int
}

// at returns the point that lies i parts of the way to b, and j parts of the way to c.
func (l lattice) at(i, j int) api.Point {
	along := func(a, b, c int) int { return a + (b-a)/l.count*i + (c-a)/l.count*j }
	return at(along(l.a.X, l.b.X, l.c.X), along(l.a.Y, l.b.Y, l.c.Y), along(l.a.Z, l.b.Z, l.c.Z))
}

func (l lattice) triangle() api.Tri { return api.Tri{l.a, l.b, l.c} }

// lattice returns one that is not flat, of which many lines contain vertices.
func (g *generator) lattice(level int) lattice {
	for {
		l := lattice{count: 2 + g.below(3), a: g.point(level)}
		length := max(1, size(level)/(1+g.below(4)))
		b, c := g.slanted(l.a, length), g.slanted(l.a, length)
		far := func(a, b int) int { return a + (b-a)*l.count }
		l.b = at(far(l.a.X, b.X), far(l.a.Y, b.Y), far(l.a.Z, b.Z))
		l.c = at(far(l.a.X, c.X), far(l.a.Y, c.Y), far(l.a.Z, c.Z))
		if refTriangleOf(l.triangle()).isAdmitted {
			return l
		}
	}
}

// divisions returns lists of triangles into which the triangle is divided: at each
// point of a side, at each point in it, and at all points.
func (l lattice) divisions() [][]api.Tri {
	var all [][]api.Tri
	for k := 1; k < l.count; k++ {
		p, q, r := l.at(k, 0), l.at(l.count-k, k), l.at(0, k)
		all = append(all, []api.Tri{{l.a, p, l.c}, {p, l.b, l.c}}, []api.Tri{{l.b, q, l.a}, {q, l.c, l.a}}, []api.Tri{{l.c, r, l.b}, {r, l.a, l.b}})
		for j := 1; j < l.count-k; j++ {
			p := l.at(k, j)
			all = append(all, []api.Tri{{l.a, l.b, p}, {l.b, l.c, p}, {l.c, l.a, p}})
		}
	}
	var small []api.Tri
	for i := range l.count {
		for j := range l.count - i {
			small = append(small, api.Tri{l.at(i, j), l.at(i+1, j), l.at(i, j+1)})
			if i+j+2 <= l.count {
				small = append(small, api.Tri{l.at(i+1, j), l.at(i+1, j+1), l.at(i, j+1)})
			}
		}
	}
	return append(all, small)
}

// P6.4: dividing a triangle changes nothing; exactly one of its parts crosses each
// edge, also if the edge meets the sides of parts before it is moved.
func TestP6_4Divided(t *testing.T) {
	g := generator(644)
	var count cases
	for _, level := range []int{1, 2, 3, 8} {
		for range 150 {
			l := g.lattice(level)
			want := grid.Cross([]api.Tri{l.triangle()}, level)
			for _, parts := range l.divisions() {
				checkCross(t, parts, level, want)
				for _, e := range want {
					crossed := 0
					for _, part := range parts {
						if grid.Crosses(part, e, level) {
							crossed++
							decided(part, e, level, &count)
						}
					}
					if crossed != 1 {
						t.Fatalf("Crosses of %v, %+v, level %d: %d of them", parts, e, level, crossed)
					}
				}
			}
		}
	}
	if min(count.planes, count.lines[0], count.lines[2]) < 300 {
		t.Errorf("cases: %+v", count)
	}
}

// closed are lists of three numbers of corners each, of closed surfaces: a
// tetrahedron, an octahedron, two triangles that are each other turned, and rings.
func closed() [][][3]int {
	all := [][][3]int{
		{{0, 1, 2}, {0, 2, 3}, {0, 3, 1}, {1, 3, 2}},
		{{0, 1, 2}, {0, 2, 3}, {0, 3, 4}, {0, 4, 1}, {5, 2, 1}, {5, 3, 2}, {5, 4, 3}, {5, 1, 4}},
		{{0, 1, 2}, {0, 2, 1}},
	}
	for _, size := range [][2]int{{3, 3}, {3, 4}, {5, 4}} {
		n, m := size[0], size[1]
		var ring [][3]int
		corner := func(i, j int) int { return i%n*m + j%m }
		for i := range n {
			for j := range m {
				ring = append(ring, [3]int{corner(i, j), corner(i+1, j), corner(i+1, j+1)}, [3]int{corner(i, j), corner(i+1, j+1), corner(i, j+1)})
			}
		}
		all = append(all, ring)
	}
	return all
}

// surface returns a closed surface with corners anywhere: most pass through
// themselves, and many have flat triangles.
func (g *generator) surface(level int) []api.Tri {
	for {
		var corners []api.Point
		for i := range 20 {
			p := g.point(level)
			if i > 1 && g.below(2) == 0 { // on a line with others
				q, r := corners[i-1], corners[i-2]
				p = at(clamp(2*q.X-r.X), clamp(2*q.Y-r.Y), clamp(2*q.Z-r.Z))
			}
			corners = append(corners, p)
		}
		var l []api.Tri
		for _, t := range pick(g, closed()) {
			l = append(l, api.Tri{corners[t[0]], corners[t[1]], corners[t[2]]})
		}
		if mesh.Check(l) == api.OK {
			return l
		}
	}
}

// passesThroughItself reports whether two triangles without common corners meet.
func passesThroughItself(l []api.Tri) bool {
	for i, s := range l {
		for _, r := range l[:i] {
			isOfS := func(p api.Point) bool { return slices.Contains(s[:], p) }
			if !slices.ContainsFunc(r[:], isOfS) && exact.Meet(r, s) {
				return true
			}
		}
	}
	return false
}

// oddFaces returns the faces with an odd number of the edges.
func oddFaces(l []api.Edge, level int) []api.Face {
	odd := map[api.Face]bool{}
	for _, e := range l {
		for i := range 2 {
			across, normal := (e.Axis+1+i)%3, (e.Axis+2-i)%3
			for _, p := range []api.Point{start(e), plus(start(e), across, -1)} {
				if x := coordinates(p)[across]; x >= 0 && x < cells(level) {
					f := api.Face{Axis: normal, X: p.X, Y: p.Y, Z: p.Z}
					odd[f] = !odd[f]
				}
			}
		}
	}
	var faces []api.Face
	for f, isOdd := range odd {
		if isOdd {
			faces = append(faces, f)
		}
	}
	return faces
}

// P6.4: a closed surface crosses an even number of edges of each face.
func TestP6_4EvenFaces(t *testing.T) {
	g := generator(645)
	var crossed, flat, through int
	for _, level := range levels()[:6] {
		for range 70 {
			l := g.surface(level)
			edges := grid.Cross(l, level)
			if odd := oddFaces(edges, level); len(odd) > 0 {
				t.Fatalf("Cross of %v, level %d: odd faces %+v", l, level, odd)
			}
			if len(edges) > 0 {
				crossed++
			}
			if slices.ContainsFunc(l, exact.Flat) {
				flat++
			}
			if passesThroughItself(l) {
				through++
			}
		}
	}
	if min(crossed, flat, through) < 30 {
		t.Errorf("surfaces that cross edges: %d, with flat triangles: %d, that pass through themselves: %d", crossed, flat, through)
	}
}

// P6.4: so at level 8; and a surface that is not closed has odd faces.
func TestP6_4EvenFacesOfLevel8(t *testing.T) {
	g := generator(646)
	for range 3 {
		l := g.surface(8)
		edges := grid.Cross(l, 8)
		if odd := oddFaces(edges, 8); len(odd) > 0 {
			t.Fatalf("Cross of %v: odd faces %+v", l, odd)
		}
	}
	if odd := oddFaces(grid.Cross([]api.Tri{first()}, 1), 1); len(odd) != 4 {
		t.Errorf("odd faces around the edge: %+v", odd)
	}
}

// parents returns the edges of the level before of which exactly one half is among the edges.
func parents(l []api.Edge) []api.Edge {
	var all []api.Edge
	for _, e := range l {
		c := coordinates(start(e))
		if c[(e.Axis+1)%3]%2 == 0 && c[(e.Axis+2)%3]%2 == 0 {
			all = append(all, edge(e.Axis, e.X/2, e.Y/2, e.Z/2))
		}
	}
	return onlyOnce(all)
}

// P6.4: an edge is crossed exactly if exactly one of its halves is.
func TestP6_4Halves(t *testing.T) {
	g := generator(647)
	for _, level := range levels()[:7] {
		crossed := 0
		for range 30 {
			l := g.triangles(level+g.below(2), 1+g.below(4))
			want := parents(grid.Cross(l, level+1))
			crossed += len(want)
			checkCross(t, l, level, want)
		}
		if crossed < 20 {
			t.Errorf("level %d: edges that are crossed: %d", level, crossed)
		}
	}
}

// P6.4: so for Crosses, for each edge of small levels.
func TestP6_4HalvesOfCrosses(t *testing.T) {
	g := generator(648)
	for _, level := range []int{1, 2} {
		for range 100 {
			s := g.triangle(level + g.below(2))
			for _, e := range allEdges(level) {
				half := edge(e.Axis, 2*e.X, 2*e.Y, 2*e.Z)
				p := end(half)
				one, other := grid.Crosses(s, half, level+1), grid.Crosses(s, edge(e.Axis, p.X, p.Y, p.Z), level+1)
				if grid.Crosses(s, e, level) != (one != other) {
					t.Fatalf("Crosses of %v, %+v, level %d; its halves: %v, %v", s, e, level, one, other)
				}
			}
		}
	}
}
