package witness_test

import (
	"fmt"
	"math"
	"slices"
	"testing"

	"lithophane/api"
	"lithophane/exact"
	"lithophane/mesh"
	"lithophane/witness"
)

func at(x, y, z int) api.Point { return api.Point{X: x, Y: y, Z: z} }

func tris(corners ...api.Point) []api.Tri {
	var l []api.Tri
	for c := range slices.Chunk(corners, 3) {
		l = append(l, api.Tri(c))
	}
	return l
}

func move(from, to api.Point) api.Move { return api.Move{From: from, To: to} }

// claim is what Check is asked about.
type claim struct {
	fine, coarse []api.Tri
	moves        []api.Move
}

// unchanged is a surface as it is.
func unchanged(l []api.Tri) claim { return claim{l, l, nil} }

// joint returns the claim that consists of others; the moves are put in order.
func joint(claims ...claim) claim {
	var all claim
	for _, c := range claims {
		all.fine = append(all.fine, c.fine...)
		all.coarse = append(all.coarse, c.coarse...)
		all.moves = append(all.moves, c.moves...)
	}
	all.moves = ordered(all.moves)
	return all
}

// ordered returns the moves in the order of their beginnings.
func ordered(moves []api.Move) []api.Move {
	all := slices.Clone(moves)
	slices.SortStableFunc(all, func(a, b api.Move) int { return comparePoints(a.From, b.From) })
	return all
}

func comparePoints(a, b api.Point) int {
	if exact.Less(a, b) {
		return -1
	}
	if exact.Less(b, a) {
		return 1
	}
	return 0
}

// put returns the claim with all corners replaced by place of them.
func (c claim) put(place func(api.Point) api.Point) claim {
	var moves []api.Move
	for _, m := range c.moves {
		moves = append(moves, move(place(m.From), place(m.To)))
	}
	return claim{placed(c.fine, place), placed(c.coarse, place), ordered(moves)}
}

// shifted returns the claim at another place.
func (c claim) shifted(by api.Point) claim {
	return c.put(func(p api.Point) api.Point { return sum(p, by) })
}

func (c claim) copied() claim {
	return claim{slices.Clone(c.fine), slices.Clone(c.coarse), slices.Clone(c.moves)}
}

// wants checks a result of Check.
func (c claim) wants(t *testing.T, number int, kind api.Errno) {
	t.Helper()
	if n, e := witness.Check(c.fine, c.coarse, c.moves); n != number || e != kind {
		t.Fatalf("Check of %s: %d, %v; want %d, %v", brief(c), n, e, number, kind)
	}
}

// tetrahedron is that of chapter 4, n times as large.
func tetrahedron(n int) []api.Tri {
	o, x, y, z := at(0, 0, 0), at(n, 0, 0), at(0, n, 0), at(0, 0, n)
	return tris(o, y, x, o, x, z, o, z, y, x, y, z)
}

// octahedron has the corners ±size on the axes.
func octahedron(size int) []api.Tri {
	var l []api.Tri
	for _, x := range []int{-size, size} {
		for _, y := range []int{-size, size} {
			for _, z := range []int{-size, size} {
				tri := api.Tri{at(x, 0, 0), at(0, y, 0), at(0, 0, z)}
				if (x < 0) != (y < 0) != (z < 0) {
					tri[0], tri[1] = tri[1], tri[0]
				}
				l = append(l, tri)
			}
		}
	}
	return l
}

// placed returns the triangles with each corner replaced by place of it.
func placed(l []api.Tri, place func(api.Point) api.Point) []api.Tri {
	var all []api.Tri
	for _, tri := range l {
		all = append(all, api.Tri{place(tri[0]), place(tri[1]), place(tri[2])})
	}
	return all
}

func shifted(l []api.Tri, by api.Point) []api.Tri {
	return placed(l, func(p api.Point) api.Point { return sum(p, by) })
}

func sum(p, q api.Point) api.Point { return at(p.X+q.X, p.Y+q.Y, p.Z+q.Z) }

// with returns the triangles with one corner put elsewhere.
func with(l []api.Tri, p, elsewhere api.Point) []api.Tri {
	return placed(l, func(q api.Point) api.Point {
		if q == p {
			return elsewhere
		}
		return q
	})
}

// without returns the triangles without one of them.
func without(l []api.Tri, k int) []api.Tri { return slices.Delete(slices.Clone(l), k, k+1) }

func turned(l []api.Tri) []api.Tri {
	var all []api.Tri
	for _, tri := range l {
		all = append(all, api.Tri{tri[0], tri[2], tri[1]})
	}
	return all
}

// sheet returns the two triangles of each square of n by m squares, whose corners have
// places; ends may be the same places.
func sheet(n, m int, place func(i, j int) api.Point) []api.Tri {
	var l []api.Tri
	for i := range n {
		for j := range m {
			a, b, c, d := place(i, j), place(i+1, j), place(i+1, j+1), place(i, j+1)
			l = append(l, tris(a, b, c, a, c, d)...)
		}
	}
	return l
}

// hill is a sheet over a square, ten steps wide for each of the n squares of a side.
func hill(n int, height func(i, j int) int) []api.Tri {
	return sheet(n, n, func(i, j int) api.Point { return at(10*i, 10*j, height(i, j)) })
}

// torus is closed; its corners lie on circles, as exactly as integers can.
func torus(n, m, far, near int) []api.Tri {
	return sheet(n, m, func(i, j int) api.Point {
		x, y := onCircle(i%n, n, 1000000)
		u, z := onCircle(j%m, m, near)
		return at(quotient(x*(far+u), 1000000), quotient(y*(far+u), 1000000), z)
	})
}

func quotient(a, b int) int { return int(math.Round(float64(a) / float64(b))) }

func onCircle(i, n, radius int) (x, y int) {
	angle := 2 * math.Pi * float64(i) / float64(n)
	return int(math.Round(float64(radius) * math.Cos(angle))), int(math.Round(float64(radius) * math.Sin(angle)))
}

// tube is a sheet around an axis, open at both ends, around n corners in each of m+1 rings.
func tube(n, m, radius, step int) []api.Tri {
	return sheet(n, m, func(i, j int) api.Point {
		x, y := onCircle(i%n, n, radius)
		return at(x, y, step*j)
	})
}

// ringOf returns n corners around an axis.
func ringOf(n, radius int) []api.Point {
	var ring []api.Point
	for i := range n {
		x, y := onCircle(i, n, radius)
		ring = append(ring, at(x, y, 0))
	}
	return ring
}

// wheel returns the triangles between the hub and each two corners around it.
func wheel(hub api.Point, ring ...api.Point) []api.Tri {
	var l []api.Tri
	for k, p := range ring {
		l = append(l, api.Tri{hub, p, ring[(k+1)%len(ring)]})
	}
	return l
}

// fan returns the triangles between the hub and each two corners that stand next to
// each other.
func fan(hub api.Point, corners ...api.Point) []api.Tri {
	return wheel(hub, corners...)[:len(corners)-1]
}

// bipyramid has a ring of n corners, and two others.
func bipyramid(n, radius, height int) []api.Tri {
	ring := ringOf(n, radius)
	return append(wheel(at(0, 0, height), ring...), turned(wheel(at(0, 0, -height), ring...))...)
}

// leaf consists of a triangle and the same one turned round: a closed surface.
func leaf(a, b, c api.Point) []api.Tri { return tris(a, b, c, a, c, b) }

// refused returns a list for each error of mesh.CheckOpen, far from everything else.
func refused() map[api.Errno][]api.Tri {
	a, b, c, d := at(5000, 0, 0), at(5010, 0, 0), at(5000, 10, 0), at(5000, 0, 10)
	pinch := shifted(tetrahedron(5), a)
	return map[api.Errno][]api.Tri{
		api.ErrCorner: tris(a, b, b), api.ErrEdge: tris(a, b, c, a, b, d),
		api.ErrPinch: append(pinch, tris(a, at(4990, 0, 0), at(4990, 10, 0))...),
	}
}

// generator is a sequence of numbers that is the same in every run.
type generator uint64

func (g *generator) below(n int) int {
	*g ^= *g << 13
	*g ^= *g >> 7
	*g ^= *g << 17
	return int(uint64(*g) >> 11 % uint64(n))
}

// between returns a number from -n to n.
func (g *generator) between(n int) int { return g.below(2*n+1) - n }

func pick[T any](g *generator, all []T) T { return all[g.below(len(all))] }

// shuffled returns the triangles in another order, with other corners in front.
func (g *generator) shuffled(l []api.Tri) []api.Tri {
	all := slices.Clone(l)
	for i := range all {
		j := g.below(i + 1)
		all[i], all[j] = all[j], all[i]
	}
	for i, tri := range all {
		k := g.below(3)
		all[i] = api.Tri{tri[k], tri[(k+1)%3], tri[(k+2)%3]}
	}
	return all
}

// shaken returns the triangles with all corners moved a little.
func (g *generator) shaken(l []api.Tri, most int) []api.Tri {
	places := map[api.Point]api.Point{}
	return placed(l, func(p api.Point) api.Point {
		if _, found := places[p]; !found {
			places[p] = at(p.X+g.between(most), p.Y+g.between(most), p.Z+g.between(most))
		}
		return places[p]
	})
}

// some returns the triangles without a few.
func (g *generator) some(l []api.Tri, fewer int) []api.Tri {
	for range min(fewer, len(l)) {
		l = without(l, g.below(len(l)))
	}
	return l
}

// brief returns the beginning of a value for a message.
func brief(value any) string {
	content := fmt.Sprintf("%v", value)
	return content[:min(len(content), 1500)]
}

// shapes returns surfaces of all kinds, by their names.
func shapes() map[string][]api.Tri {
	bowtie := append(tris(at(0, 0, 0), at(10, 0, 0), at(0, 10, 0)), tris(at(0, 0, 0), at(-10, 0, 0), at(0, -10, 0))...)
	wheels := append(wheel(at(10, 10, 5), at(0, 0, 0), at(20, 0, 0), at(20, 20, 0), at(0, 20, 0)),
		wheel(at(-10, -10, 5), at(0, 0, 0), at(-20, 0, 0), at(-20, -20, 0), at(0, -20, 0))...)
	return map[string][]api.Tri{
		"tetrahedron": tetrahedron(1), "large tetrahedron": tetrahedron(50), "octahedron": octahedron(10), "small octahedron": octahedron(1),
		"torus": torus(6, 4, 60, 25), "thin torus": torus(3, 3, 60, 25), "bipyramid": bipyramid(9, 40, 30), "double triangle": bipyramid(3, 40, 30),
		"tube": tube(5, 3, 30, 20), "thin tube": tube(3, 4, 10, 20), "flat hill": hill(4, func(i, j int) int { return 0 }),
		"hill": hill(5, func(i, j int) int { return 7*i*i - 5*i*j + j*j*j }), "peak": wheel(at(0, 0, 9), ringOf(7, 30)...),
		"parts": append(octahedron(10), shifted(octahedron(8), at(100, 1, 2))...), "leaf": leaf(at(0, 0, 0), at(9, 0, 0), at(0, 9, 0)),
		"leaf and more": append(octahedron(10), leaf(at(50, 0, 0), at(59, 0, 0), at(50, 9, 0))...), "bowtie": bowtie, "wheels": wheels,
		"triangle": tris(at(0, 0, 0), at(5, 0, 0), at(0, 5, 0)), "open and closed": append(octahedron(10), shifted(wheels, at(100, 0, 0))...), "nothing": nil,
	}
}

// forShapes calls check with all shapes, in the order of their names, and with shaken
// ones and such with holes, count of each.
func forShapes(seed, count int, check func(g *generator, name string, l []api.Tri)) {
	g := generator(seed)
	all := shapes()
	var names []string
	for name := range all {
		names = append(names, name)
	}
	slices.Sort(names)
	for _, name := range names {
		check(&g, name, all[name])
		for k := range count {
			l := g.shaken(all[name], k%7)
			if k%3 > 0 {
				l = g.some(l, g.below(4*(k%3)))
			}
			check(&g, name, g.shuffled(l))
		}
	}
}

// spaces returns lists of coordinates, from very small ones to the least and the greatest
// ints, and mixed ones.
func spaces() [][]int {
	return [][]int{
		{0, 1}, {-1, 0, 1}, {-3, -2, -1, 0, 1, 2, 3}, {-90, -71, -35, -12, -5, 0, 1, 8, 23, 44, 67, 88},
		{0, 1, -1, 1000, 1000000, api.MaxCoord - 1, api.MaxCoord}, {0, 1<<30 + 1, -1<<32 + 1, 1<<40 - 1, -1<<47 - 5, 1 << 61},
		{math.MinInt, math.MaxInt}, {math.MinInt, math.MinInt + 1, 0, math.MaxInt - 1, math.MaxInt}, {0, 1, -1, api.MaxCoord, math.MinInt, math.MaxInt},
	}
}

// corners returns a few points.
func (g *generator) corners(space []int) []api.Point {
	var corners []api.Point
	for range 5 + g.below(4) {
		corners = append(corners, at(pick(g, space), pick(g, space), pick(g, space)))
	}
	return corners
}

// soup returns a list with these corners; CheckOpen accepts most of them.
func (g *generator) soup(corners []api.Point) []api.Tri {
	var l []api.Tri
	careless := 1 + 40*g.below(2)
	for range 4 + g.below(24) {
		tri := api.Tri{pick(g, corners), pick(g, corners), pick(g, corners)}
		if n := len(l); mesh.CheckOpen(append(l[:n:n], tri)) == api.OK || g.below(careless) == 1 {
			l = append(l, tri)
		}
	}
	return l
}
