package collapse_test

import (
	"fmt"
	"math"
	"slices"
	"testing"

	"lithophane/api"
	"lithophane/collapse"
	"lithophane/mesh"
)

func at(x, y, z int) api.Point { return api.Point{X: x, Y: y, Z: z} }

func tris(corners ...api.Point) []api.Tri {
	var l []api.Tri
	for c := range slices.Chunk(corners, 3) {
		l = append(l, api.Tri(c))
	}
	return l
}

// tetrahedron is that of chapter 4.
func tetrahedron() []api.Tri {
	o, x, y, z := at(0, 0, 0), at(1, 0, 0), at(0, 1, 0), at(0, 0, 1)
	return tris(o, y, x, o, x, z, o, z, y, x, y, z)
}

// octahedron has the corners ±size on the axes.
func octahedron(size int) []api.Tri {
	var l []api.Tri
	for _, x := range []int{-size, size} {
		for _, y := range []int{-size, size} {
			for _, z := range []int{-size, size} {
				tri := api.Tri{at(x, 0, 0), at(0, y, 0), at(0, 0, z)}
				if (x < 0) != (y < 0) != (z < 0) {
					tri[0], tri[1] = tri[1], tri[0]
				}
				l = append(l, tri)
			}
		}
	}
	return l
}

// placed returns the triangles with each corner replaced by place of it.
func placed(l []api.Tri, place func(api.Point) api.Point) []api.Tri {
	var all []api.Tri
	for _, tri := range l {
		all = append(all, api.Tri{place(tri[0]), place(tri[1]), place(tri[2])})
	}
	return all
}

func shifted(l []api.Tri, by api.Point) []api.Tri {
	return placed(l, func(p api.Point) api.Point { return at(p.X+by.X, p.Y+by.Y, p.Z+by.Z) })
}

// with returns the triangles with one corner put elsewhere.
func with(l []api.Tri, p, elsewhere api.Point) []api.Tri {
	return placed(l, func(q api.Point) api.Point {
		if q == p {
			return elsewhere
		}
		return q
	})
}

func turned(l []api.Tri) []api.Tri {
	var all []api.Tri
	for _, tri := range l {
		all = append(all, api.Tri{tri[0], tri[2], tri[1]})
	}
	return all
}

// sheet returns the two triangles of each square of n by m squares, whose corners have
// places; ends may be the same places.
func sheet(n, m int, place func(i, j int) api.Point) []api.Tri {
	var l []api.Tri
	for i := range n {
		for j := range m {
			a, b, c, d := place(i, j), place(i+1, j), place(i+1, j+1), place(i, j+1)
			l = append(l, tris(a, b, c, a, c, d)...)
		}
	}
	return l
}

// hill is a sheet over a square, ten steps wide for each of the n squares of a side.
func hill(n int, height func(i, j int) int) []api.Tri {
	return sheet(n, n, func(i, j int) api.Point { return at(10*i, 10*j, height(i, j)) })
}

func flatHill(n int) []api.Tri { return hill(n, func(i, j int) int { return 0 }) }

// torus is closed; its corners lie on circles, as exactly as integers can.
func torus(n, m, far, near int) []api.Tri {
	return sheet(n, m, func(i, j int) api.Point {
		x, y := onCircle(i%n, n, 1000000)
		u, z := onCircle(j%m, m, near)
		return at(divided(x*(far+u), 1000000), divided(y*(far+u), 1000000), z)
	})
}

func divided(a, b int) int { return int(math.Round(float64(a) / float64(b))) }

func onCircle(i, n, radius int) (x, y int) {
	angle := 2 * math.Pi * float64(i) / float64(n)
	return int(math.Round(float64(radius) * math.Cos(angle))), int(math.Round(float64(radius) * math.Sin(angle)))
}

// tube is a sheet around an axis, open at both ends, around n corners in each of m+1 rings.
func tube(n, m, radius, step int) []api.Tri {
	return sheet(n, m, func(i, j int) api.Point {
		x, y := onCircle(i%n, n, radius)
		return at(x, y, step*j)
	})
}

// wheel returns the triangles between the hub and each two corners around it.
func wheel(hub api.Point, ring ...api.Point) []api.Tri {
	var l []api.Tri
	for k, p := range ring {
		l = append(l, api.Tri{hub, p, ring[(k+1)%len(ring)]})
	}
	return l
}

// disc is a wheel whose ring is inside, with triangles around it.
func disc(hub api.Point, ring, outer []api.Point) []api.Tri {
	l := wheel(hub, ring...)
	for k := range ring {
		next := (k + 1) % len(ring)
		l = append(l, tris(ring[k], outer[k], outer[next], ring[k], outer[next], ring[next])...)
	}
	return l
}

// scaled returns the points, n times as far from the axis.
func scaled(points []api.Point, n int) []api.Point {
	var all []api.Point
	for _, p := range points {
		all = append(all, at(n*p.X, n*p.Y, p.Z))
	}
	return all
}

// ball is an octahedron with divided triangles, whose corners lie on a sphere, as
// exactly as integers can.
func ball(n, radius int) []api.Tri {
	var l []api.Tri
	for _, tri := range octahedron(1) {
		corner := func(i, j int) api.Point {
			k := n - i - j
			a, b, c := tri[0], tri[1], tri[2]
			p := at(i*a.X+j*b.X+k*c.X, i*a.Y+j*b.Y+k*c.Y, i*a.Z+j*b.Z+k*c.Z)
			length := math.Sqrt(float64(p.X*p.X + p.Y*p.Y + p.Z*p.Z))
			to := func(x int) int { return int(math.Round(float64(x*radius) / length)) }
			return at(to(p.X), to(p.Y), to(p.Z))
		}
		for i := range n {
			for j := range n - i {
				l = append(l, api.Tri{corner(i, j), corner(i+1, j), corner(i, j+1)})
				if i+j+1 < n {
					l = append(l, api.Tri{corner(i+1, j), corner(i+1, j+1), corner(i, j+1)})
				}
			}
		}
	}
	return l
}

// bipyramid has a ring of n corners, and two others.
func bipyramid(n, radius, height int) []api.Tri {
	var ring []api.Point
	for i := range n {
		x, y := onCircle(i, n, radius)
		ring = append(ring, at(x, y, 0))
	}
	bottom := wheel(at(0, 0, -height), ring...)
	return append(wheel(at(0, 0, height), ring...), turned(bottom)...)
}

// solid returns the triangles around the cells, which are cubes whose sides are size long.
func solid(size int, cells ...api.Point) []api.Tri {
	var l []api.Tri
	for _, c := range cells {
		for axis := range 3 {
			// The vectors along, u and v turn as X, Y and Z do.
			along, u, v := unit(axis), unit(axis+1), unit(axis+2)
			if !slices.Contains(cells, sum(c, along)) {
				b := sum(c, along)
				l = append(l, tris(b, sum(b, u), sum(b, u, v), b, sum(b, u, v), sum(b, v))...)
			}
			if !slices.Contains(cells, at(c.X-along.X, c.Y-along.Y, c.Z-along.Z)) {
				l = append(l, tris(c, sum(c, v), sum(c, u, v), c, sum(c, u, v), sum(c, u))...)
			}
		}
	}
	return placed(l, func(p api.Point) api.Point { return at(p.X*size, p.Y*size, p.Z*size) })
}

func unit(axis int) api.Point {
	return []api.Point{at(1, 0, 0), at(0, 1, 0), at(0, 0, 1)}[axis%3]
}

func sum(points ...api.Point) api.Point {
	var s api.Point
	for _, p := range points {
		s = at(s.X+p.X, s.Y+p.Y, s.Z+p.Z)
	}
	return s
}

// cells are those of a box, without some.
func cells(x, y, z int, without ...api.Point) []api.Point {
	var all []api.Point
	for i := range x * y * z {
		if c := at(i%x, i/x%y, i/x/y); !slices.Contains(without, c) {
			all = append(all, c)
		}
	}
	return all
}

// twins are a triangle and the same one turned round, far from everything else.
func twins() []api.Tri {
	a, b, c := at(1000, 0, 0), at(1010, 0, 0), at(1000, 10, 0)
	return tris(a, b, c, a, c, b)
}

// refused returns a list for each error of mesh.CheckOpen, far from everything else.
func refused() map[api.Errno][]api.Tri {
	a, b, c, d := at(1000, 0, 0), at(1010, 0, 0), at(1000, 10, 0), at(1000, 0, 10)
	pinch := shifted(tetrahedron(), a)
	return map[api.Errno][]api.Tri{
		api.ErrCorner: tris(a, b, b), api.ErrEdge: tris(a, b, c, a, b, d),
		api.ErrPinch: append(pinch, tris(a, at(990, 0, 0), at(990, 10, 0))...),
	}
}

// generator is a sequence of numbers that is the same in every run.
type generator uint64

func (g *generator) below(n int) int {
	*g ^= *g << 13
	*g ^= *g >> 7
	*g ^= *g << 17
	return int(uint64(*g) >> 11 % uint64(n))
}

// between returns a number from -n to n.
func (g *generator) between(n int) int { return g.below(2*n+1) - n }

func pick[T any](g *generator, all []T) T { return all[g.below(len(all))] }

// shuffled returns the triangles in another order, with other corners in front.
func (g *generator) shuffled(l []api.Tri) []api.Tri {
	all := slices.Clone(l)
	for i := range all {
		j := g.below(i + 1)
		all[i], all[j] = all[j], all[i]
	}
	for i, tri := range all {
		k := g.below(3)
		all[i] = api.Tri{tri[k], tri[(k+1)%3], tri[(k+2)%3]}
	}
	return all
}

// shaken returns the triangles with all corners moved a little.
func (g *generator) shaken(l []api.Tri, most int) []api.Tri {
	places := map[api.Point]api.Point{}
	return placed(l, func(p api.Point) api.Point {
		if _, found := places[p]; !found {
			places[p] = at(p.X+g.between(most), p.Y+g.between(most), p.Z+g.between(most))
		}
		return places[p]
	})
}

// some returns the triangles without a few.
func (g *generator) some(l []api.Tri, without int) []api.Tri {
	all := slices.Clone(l)
	for range min(without, len(all)) {
		k := g.below(len(all))
		all = slices.Delete(all, k, k+1)
	}
	return all
}

// brief returns the beginning of a value for a message.
func brief(value any) string {
	content := fmt.Sprintf("%v", value)
	return content[:min(len(content), 1500)]
}

// shapes returns surfaces of all kinds, by their names.
func shapes() map[string][]api.Tri {
	cross := sum(at(4, 3, 2))
	return map[string][]api.Tri{
		"tetrahedron": tetrahedron(), "large tetrahedron": placed(tetrahedron(), func(p api.Point) api.Point { return at(10*p.X, 13*p.Y, 17*p.Z) }),
		"octahedron": octahedron(10), "small octahedron": octahedron(1), "cube": solid(10, at(0, 0, 0)), "box": solid(10, cells(3, 2, 1)...),
		"ring of cells": solid(6, cells(3, 3, 1, at(1, 1, 0))...), "torus": torus(6, 4, 60, 25), "thin torus": torus(3, 3, 60, 25),
		"bipyramid": bipyramid(9, 40, 30), "low bipyramid": bipyramid(5, 40, 3), "double triangle": bipyramid(3, 40, 30),
		"tube": tube(5, 3, 30, 20), "thin tube": tube(3, 4, 10, 20), "flat hill": flatHill(4),
		"hill": hill(5, func(i, j int) int { return 7*i*i - 5*i*j + j*j*j }), "peak": wheel(at(0, 0, 9), at(10, 0, 0), at(0, 10, 0), at(-10, 0, 0), at(0, -10, 0)),
		"roof":  hill(4, func(i, j int) int { return 10 * max(i, 4-i) }),
		"parts": append(octahedron(10), shifted(octahedron(8), at(100, 1, 2))...), "parts that meet": append(octahedron(10), shifted(octahedron(9), cross)...),
		"twins": append(octahedron(10), twins()...), "triangle": tris(at(0, 0, 0), at(5, 0, 0), at(0, 5, 0)), "nothing": nil,
	}
}

// forShapes calls check with all shapes, in the order of their names, and with shaken
// ones and such with holes, count of each.
func forShapes(seed, count int, check func(g *generator, name string, l []api.Tri)) {
	g := generator(seed)
	all := shapes()
	var names []string
	for name := range all {
		names = append(names, name)
	}
	slices.Sort(names)
	for _, name := range names {
		check(&g, name, all[name])
		for k := range count {
			l := g.shaken(all[name], k%7)
			if k%3 > 0 {
				l = g.some(l, g.below(4*(k%3)))
			}
			check(&g, name, g.shuffled(l))
		}
	}
}

// stacked is a tetrahedron in which n triangles are divided by corners near to them, one
// after the other: many corners are joined without a triangle between them.
func (g *generator) stacked(n, most int) []api.Tri {
	l := placed(tetrahedron(), func(p api.Point) api.Point { return at(120*p.X, 110*p.Y, 100*p.Z) })
	for range n {
		k := g.below(len(l))
		a, b, c := l[k][0], l[k][1], l[k][2]
		i, j, m := 1+g.below(9), 1+g.below(9), 1+g.below(9)
		mean := func(x, y, z int) int { return (i*x+j*y+m*z)/(i+j+m) + g.between(most) }
		p := at(mean(a.X, b.X, c.X), mean(a.Y, b.Y, c.Y), mean(a.Z, b.Z, c.Z))
		l[k] = api.Tri{a, b, p}
		l = append(l, api.Tri{b, c, p}, api.Tri{c, a, p})
	}
	return l
}

// soup returns a list with few corners; CheckOpen accepts most of them.
func (g *generator) soup(space []int) []api.Tri {
	var corners []api.Point
	for range 5 + g.below(4) {
		corners = append(corners, at(pick(g, space), pick(g, space), pick(g, space)))
	}
	var l []api.Tri
	careless := 1 + 40*g.below(2)
	for range 4 + g.below(24) {
		tri := api.Tri{pick(g, corners), pick(g, corners), pick(g, corners)}
		if n := len(l); mesh.CheckOpen(append(l[:n:n], tri)) == api.OK || g.below(careless) == 1 {
			l = append(l, tri)
		}
	}
	return l
}

// spaces returns lists of coordinates, from very small ones to the least and the greatest
// ints, and mixed ones.
func spaces() [][]int {
	return [][]int{
		{0, 1}, {-1, 0, 1}, {-3, -2, -1, 0, 1, 2, 3}, {-90, -71, -35, -12, -5, 0, 1, 8, 23, 44, 67, 88},
		{0, 1, -1, 1000, 1000000, api.MaxCoord - 1, api.MaxCoord}, {0, 1<<30 + 1, -1<<32 + 1, 1<<40 - 1, -1<<47 - 5},
		{math.MinInt, math.MaxInt}, {math.MinInt, math.MinInt + 1, 0, math.MaxInt - 1, math.MaxInt}, {0, 1, -1, api.MaxCoord, math.MinInt, math.MaxInt},
	}
}

// forSoups calls check with lists of all spaces, count of each.
func forSoups(seed, count int, check func(g *generator, l []api.Tri)) {
	g := generator(seed)
	for _, space := range spaces() {
		for range count {
			check(&g, g.soup(space))
		}
	}
}

// checkCollapse checks a result of Collapse.
func checkCollapse(t *testing.T, l []api.Tri, u, v api.Point, want []api.Tri) {
	t.Helper()
	if got := collapse.Collapse(l, u, v); !slices.Equal(got, want) {
		t.Fatalf("Collapse of %s, %v into %v: %s; want %s", brief(l), u, v, brief(got), brief(want))
	}
}

// checkAllowed checks a result of Allowed.
func checkAllowed(t *testing.T, l []api.Tri, u, v api.Point, want bool) {
	t.Helper()
	if got := collapse.Allowed(l, u, v); got != want {
		t.Fatalf("Allowed of %s, %v into %v: %v; conditions that do not hold: %v", brief(l), u, v, got, refListOf(l).broken(u, v))
	}
}

// checkBroken checks Allowed for a collapse for which exactly these conditions do not
// hold: for the list in any order, also turned round, with its coordinates exchanged,
// or with great ones.
func checkBroken(t *testing.T, l []api.Tri, u, v api.Point, numbers ...int) {
	t.Helper()
	g := generator(9)
	for _, place := range []func(api.Point) api.Point{
		func(p api.Point) api.Point { return p },
		func(p api.Point) api.Point { return at(p.Y, p.Z, p.X) },
		func(p api.Point) api.Point { return at(p.Z, p.X, p.Y) },
		func(p api.Point) api.Point { return at(p.X<<50, p.Y<<50, -p.Z<<50) },
	} {
		for _, other := range [][]api.Tri{placed(l, place), g.shuffled(placed(l, place)), turned(g.shuffled(placed(l, place)))} {
			u, v := place(u), place(v)
			if got := refListOf(other).broken(u, v); !slices.Equal(got, numbers) {
				t.Fatalf("%s, %v into %v: conditions that do not hold: %v; want %v", brief(other), u, v, got, numbers)
			}
			checkAllowed(t, other, u, v, len(numbers) == 0)
		}
	}
}

// checkSimplify checks results of Simplify.
func checkSimplify(t *testing.T, l []api.Tri, want int, list []api.Tri, moves []api.Move) {
	t.Helper()
	got, gotMoves := collapse.Simplify(l, want)
	if !slices.Equal(got, list) || !slices.Equal(gotMoves, moves) {
		t.Fatalf("Simplify of %s, %d: %d triangles %s, moves %s; want %d triangles %s, moves %s", brief(l), want,
			len(got), brief(got), brief(gotMoves), len(list), brief(list), brief(moves))
	}
}
