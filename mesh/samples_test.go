package mesh_test

import (
	"fmt"
	"math"
	"slices"
	"testing"

	"lithophane/api"
	"lithophane/mesh"
)

// Corners of the document's examples.
var (
	o = at(0, 0, 0)
	x = at(1, 0, 0)
	y = at(0, 1, 0)
	z = at(0, 0, 1)
)

func at(x, y, z int) api.Point { return api.Point{X: x, Y: y, Z: z} }

// tris returns the triangles whose corners are each three of the points.
func tris(points ...api.Point) []api.Tri {
	var l []api.Tri
	for t := range slices.Chunk(points, 3) {
		l = append(l, api.Tri(t))
	}
	return l
}

// tetrahedron is that of the document's examples.
func tetrahedron() []api.Tri { return tris(o, y, x, o, x, z, o, z, y, x, y, z) }

// turned returns the triangles turned round.
func turned(l []api.Tri) []api.Tri {
	var all []api.Tri
	for _, t := range l {
		all = append(all, api.Tri{t[0], t[2], t[1]})
	}
	return all
}

// placed returns the triangles with each corner replaced by place of it.
func placed(l []api.Tri, place func(api.Point) api.Point) []api.Tri {
	var all []api.Tri
	for _, t := range l {
		all = append(all, api.Tri{place(t[0]), place(t[1]), place(t[2])})
	}
	return all
}

// moved returns the triangles moved by a vector.
func moved(l []api.Tri, by api.Point) []api.Tri {
	return placed(l, func(p api.Point) api.Point { return at(p.X+by.X, p.Y+by.Y, p.Z+by.Z) })
}

// mirrored returns the triangles on the other side of the origin, with the same outside.
func mirrored(l []api.Tri) []api.Tri {
	return turned(placed(l, func(p api.Point) api.Point { return at(-p.X, -p.Y, -p.Z) }))
}

// fan returns the triangles from a hub to each two neighbours among the corners.
func fan(hub api.Point, corners ...api.Point) []api.Tri {
	var l []api.Tri
	for i := range len(corners) - 1 {
		l = append(l, api.Tri{hub, corners[i], corners[i+1]})
	}
	return l
}

// ring returns the triangles from a hub to each two neighbours, and to the last
// and the first one, of count corners around it.
func ring(hub api.Point, count int) []api.Tri {
	var corners []api.Point
	for i := range count + 1 {
		corners = append(corners, at(hub.X+1, hub.Y+i%count, hub.Z))
	}
	return fan(hub, corners...)
}

// strip returns count triangles in a row, each of which has an edge in common
// with the next one.
func strip(count int) []api.Tri {
	var l []api.Tri
	for i := range count {
		t := api.Tri{at(i, i%2, 0), at(i+1, (i+1)%2, 0), at(i+2, i%2, 0)}
		if i%2 == 1 {
			t[0], t[1] = t[1], t[0]
		}
		l = append(l, t)
	}
	return l
}

// doubleCone returns a closed list with two rings of count triangles.
func doubleCone(count int) []api.Tri {
	bottom := placed(turned(ring(o, count)), func(p api.Point) api.Point {
		if p == o {
			return at(2, 0, 0)
		}
		return p
	})
	return append(ring(o, count), bottom...)
}

// torus returns a closed list with 2 n m triangles.
func torus(n, m int) []api.Tri {
	corner := func(i, j int) api.Point { return at(i%n, j%m, i%n*(i%n)+j%m*(j%m)) }
	var l []api.Tri
	for i := range n {
		for j := range m {
			l = append(l, tris(corner(i, j), corner(i+1, j), corner(i+1, j+1), corner(i, j), corner(i+1, j+1), corner(i, j+1))...)
		}
	}
	return l
}

// solid returns the triangles around the cells, which are cubes of size 1.
func solid(cells ...api.Point) []api.Tri {
	var l []api.Tri
	for _, c := range cells {
		for axis := range 3 {
			// The vectors along, u and v turn as X, Y and Z do.
			var along, u, v api.Point
			*coordinate(&along, axis), *coordinate(&u, axis+1), *coordinate(&v, axis+2) = 1, 1, 1
			if !slices.Contains(cells, sum(c, along)) {
				base := sum(c, along)
				l = append(l, square(base, sum(base, u), sum(base, u, v), sum(base, v))...)
			}
			if !slices.Contains(cells, at(c.X-along.X, c.Y-along.Y, c.Z-along.Z)) {
				l = append(l, square(c, sum(c, v), sum(c, u, v), sum(c, u))...)
			}
		}
	}
	return l
}

func square(a, b, c, d api.Point) []api.Tri { return tris(a, b, c, a, c, d) }

// coordinate returns the place of a coordinate.
func coordinate(p *api.Point, axis int) *int { return []*int{&p.X, &p.Y, &p.Z}[axis%3] }

func sum(points ...api.Point) api.Point {
	var s api.Point
	for _, p := range points {
		s = at(s.X+p.X, s.Y+p.Y, s.Z+p.Z)
	}
	return s
}

// box returns the cells of a box whose least one is at the origin, without some.
func box(sx, sy, sz int, without ...api.Point) []api.Point {
	var cells []api.Point
	for i := range sx * sy * sz {
		if c := at(i%sx, i/sx%sy, i/sx/sy); !slices.Contains(without, c) {
			cells = append(cells, c)
		}
	}
	return cells
}

// generator is a sequence of numbers that is the same in every run.
type generator uint64

func (g *generator) below(n int) int {
	*g ^= *g << 13
	*g ^= *g >> 7
	*g ^= *g << 17
	return int(uint64(*g) >> 11 % uint64(n))
}

// shuffled returns the triangles in another order, with other corners in front.
func (g *generator) shuffled(l []api.Tri) []api.Tri {
	all := slices.Clone(l)
	for i := range all {
		j := g.below(i + 1)
		all[i], all[j] = all[j], all[i]
	}
	for i, t := range all {
		k := g.below(3)
		all[i] = api.Tri{t[k], t[(k+1)%3], t[(k+2)%3]}
	}
	return all
}

// list returns up to most triangles with corners among the points: any ones, or
// mostly such without equal corners, and with edges that none has before. At times,
// one is the turned one before it, so that many lists are closed.
func (g *generator) list(points []api.Point, most int) []api.Tri {
	var l []api.Tri
	careless := []int{0, 0, 20, 1}[g.below(4)]
	turning := 2 + g.below(3)
	for range g.below(most + 1) {
		t := api.Tri{points[g.below(len(points))], points[g.below(len(points))], points[g.below(len(points))]}
		if len(l) > 0 && g.below(turning) == 0 {
			t = turned(l)[len(l)-1]
		}
		e := refCheck(append(l[:len(l):len(l)], t), false)
		if e != api.ErrCorner && e != api.ErrEdge || careless > 0 && g.below(careless) == 0 {
			l = append(l, t)
		}
	}
	return l
}

// spaces returns lists of few points, near to each other or far apart.
func spaces() [][]api.Point {
	lo, hi := math.MinInt, math.MaxInt
	return [][]api.Point{
		{o, x, y}, {o, x, y, z}, {o, x, y, z, at(1, 1, 1)}, {o, x, y, z, at(1, 1, 1), at(-1, 0, 2), at(0, -1, 0)},
		{o, x, y, z, at(2, 0, 0), at(0, 2, 0), at(0, 0, 2), at(1, 1, 0), at(0, 1, 1), at(1, 0, 1), at(1, 1, 1)},
		{at(lo, lo, lo), at(hi, hi, hi), at(lo, hi, 0), at(hi, lo, -1), at(0, 0, lo), at(0, 0, hi)},
		{at(lo, 0, 0), at(lo, 0, 1), at(lo, -1, hi), at(hi, 0, lo), at(lo+1, lo, lo)},
	}
}

// forLists calls check with many lists, count for each space.
func forLists(count int, check func(g *generator, l []api.Tri)) {
	g := generator(4)
	for _, points := range spaces() {
		for range count {
			check(&g, g.list(points, 14))
		}
	}
}

// kinds returns lists of all kinds: nil and empty ones, single triangles, equal,
// rotated and turned ones, closed and open ones, with errors and without.
func kinds() [][]api.Tri {
	l := [][]api.Tri{
		nil, {}, tetrahedron()[:1], tetrahedron(), tetrahedron()[:3], turned(tetrahedron()),
		append(tetrahedron(), mirrored(tetrahedron())...), append(tetrahedron(), tetrahedron()...),
		tris(x, y, z, x, z, y), tris(x, y, z, y, z, x), tris(x, y, z, x, y, z), tris(z, z, z), tris(z, o, o, o, z, o, o, o, z),
		strip(7), ring(o, 3), ring(o, 9), doubleCone(4), torus(3, 4), solid(box(2, 2, 1)...), solid(o, at(1, 1, 0)),
	}
	forLists(8, func(g *generator, m []api.Tri) { l = append(l, m) })
	return l
}

// wants checks a result of a function for a list.
func wants[T comparable](t *testing.T, name string, l []api.Tri, got, want T) {
	t.Helper()
	if got != want {
		t.Errorf("%s of %s: %v, want %v", name, brief(l), got, want)
	}
}

// wantsAll checks a result that is a slice.
func wantsAll[T comparable](t *testing.T, name string, l []api.Tri, got, want []T) {
	t.Helper()
	if !slices.Equal(got, want) {
		t.Errorf("%s of %s: %s, want %s", name, brief(l), brief(got), brief(want))
	}
}

// brief returns a list for a message.
func brief[T any](l []T) string {
	if len(l) > 20 {
		return fmt.Sprintf("%v .. (%d in all)", l[:5], len(l))
	}
	return fmt.Sprint(l)
}

// checks checks the results of Check and CheckOpen.
func checks(t *testing.T, l []api.Tri, closed, open api.Errno) {
	t.Helper()
	wants(t, "Check", l, mesh.Check(l), closed)
	wants(t, "CheckOpen", l, mesh.CheckOpen(l), open)
}

// divides checks the result of Parts; the parts that are wanted may be in any form.
func divides(t *testing.T, l []api.Tri, want ...[]api.Tri) {
	t.Helper()
	got := mesh.Parts(l)
	var forms [][]api.Tri
	for _, part := range want {
		forms = append(forms, refCanon(part))
	}
	slices.SortFunc(forms, func(a, b []api.Tri) int { return refCompareTris(a[0], b[0]) })
	if !slices.EqualFunc(got, forms, slices.Equal) {
		t.Errorf("Parts of %s: %s, want %s", brief(l), brief(got), brief(forms))
	}
}
