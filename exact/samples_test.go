package exact_test

import (
	"math"
	"testing"

	"lithophane/api"
)

// generator is a sequence of numbers that is the same in every run.
type generator uint64

func (g *generator) below(n int) int {
	*g ^= *g << 13
	*g ^= *g >> 7
	*g ^= *g << 17
	return int(uint64(*g) >> 11 % uint64(n))
}

func (g *generator) point(coordinates []int) api.Point {
	n := len(coordinates)
	return api.Point{X: coordinates[g.below(n)], Y: coordinates[g.below(n)], Z: coordinates[g.below(n)]}
}

// flatter returns a point in a plane of few points, or any.
func (g *generator) flatter(coordinates []int) api.Point {
	p := g.point(coordinates)
	if g.below(2) == 0 {
		p.Z = coordinates[0]
	}
	return p
}

func (g *generator) tri(coordinates []int) api.Tri {
	return api.Tri{g.flatter(coordinates), g.flatter(coordinates), g.flatter(coordinates)}
}

// steps returns the coordinates least, least + step, ..
func steps(least, step, count int) []int {
	var all []int
	for i := range count {
		all = append(all, least+i*step)
	}
	return all
}

// spaces returns lists of few coordinates, at which points are often equal, on
// one line or in one plane; they are near to 0 or far from it, near to each
// other or far apart.
func spaces() [][]int {
	return [][]int{
		steps(0, 1, 3), steps(-2, 1, 5), steps(0, 1<<19, 4), steps(0, api.MaxCoord, 2),
		steps(-1<<28, 1<<28, 3), steps(-1<<29, 1<<28+1, 5), steps(-1<<30-1, 1<<29, 4), steps(7, 1<<30+1, 4),
		steps(-1<<32, 1<<31, 4), steps(-1<<62, 1<<61, 4),
		steps(math.MinInt, 1, 3), steps(math.MaxInt-2, 1, 3), steps(math.MinInt, 1<<62, 4),
		steps(math.MinInt, math.MaxUint64/3, 4), // up to math.MaxInt
		{math.MinInt, math.MaxInt}, {math.MinInt, math.MinInt + 1, -1, 0, 1, math.MaxInt - 1, math.MaxInt},
		{-1 << 30, -1 << 29, -1<<29 - 1, -1, 0, 1 << 28, 1<<29 - 1, 1 << 29, 1<<29 + 1, 1 << 30},
	}
}

// or returns the coordinates, or those of another space.
func (g *generator) or(coordinates []int) []int {
	if all := spaces(); g.below(4) == 0 {
		return all[g.below(len(all))]
	}
	return coordinates
}

// forSpaces calls check with a generator and the coordinates of each space, count times.
func forSpaces(count int, check func(g *generator, coordinates []int)) {
	g := generator(1)
	for _, coordinates := range spaces() {
		for range count {
			check(&g, coordinates)
		}
	}
}

// orders returns t with its corners in all orders.
func orders(t api.Tri) []api.Tri {
	return []api.Tri{{t[0], t[1], t[2]}, {t[1], t[2], t[0]}, {t[2], t[0], t[1]}, {t[0], t[2], t[1]}, {t[1], t[0], t[2]}, {t[2], t[1], t[0]}}
}

// at returns a point of small coordinates.
func at(x, y, z int) api.Point { return api.Point{X: x, Y: y, Z: z} }

// A placing moves points, whose coordinates are from -9 to 9, to another place
// and size, and exchanges the axes.
type placing struct{ scale, move, turn int }

func placings() []placing {
	var all []placing
	for turn := range 3 {
		all = append(all, placing{1, 0, turn}, placing{1 << 20, 5, turn}, placing{1 << 27, -1 << 40, turn}, placing{1<<28 - 1, 0, turn},
			placing{1 << 58, -1 << 58, turn}, placing{-1 << 59, 1, turn}, placing{1, math.MinInt + 9, turn}, placing{1, math.MaxInt - 9, turn})
	}
	return all
}

func (x placing) point(p api.Point) api.Point {
	if min(p.X, p.Y, p.Z) < -9 || max(p.X, p.Y, p.Z) > 9 {
		panic("too far away to be placed")
	}
	a := [3]int{p.X*x.scale + x.move, p.Y*x.scale + x.move, p.Z*x.scale + x.move}
	return api.Point{X: a[x.turn], Y: a[(x.turn+1)%3], Z: a[(x.turn+2)%3]}
}

func (x placing) tri(t api.Tri) api.Tri { return api.Tri{x.point(t[0]), x.point(t[1]), x.point(t[2])} }

// The reference finds what is known.
func TestReference(t *testing.T) {
	tri := []api.Point{at(0, 0, 0), at(2, 0, 0), at(0, 3, 0)}
	for _, x := range []struct {
		p, q api.Point
		want bool
	}{{at(0, 0, 1), at(0, 0, -1), true}, {at(5, 5, 1), at(5, 5, -1), false}, {at(1, 1, 3), at(1, 1, 1), false}, {at(1, 1, 0), at(1, 1, 0), true},
		{at(-1, 1, 0), at(9, 1, 0), true}, {at(-1, 3, 0), at(9, 4, 0), false}, {at(2, -1, 0), at(2, 5, 0), true}, {at(2, 1, 0), at(2, 5, 0), false}} {
		if got := haveCommonPoint([]api.Point{x.p, x.q}, tri); got != x.want {
			t.Errorf("%v, %v: %v", x.p, x.q, got)
		}
	}
	if !haveCommonRay(at(0, 0, 0), at(2, 0, 0), at(0, 3, 0), at(1, 1, 0), at(-1, 2, 5)) || haveCommonRay(at(0, 0, 0), at(2, 0, 0), at(0, 3, 0), at(1, 1, 5), at(-1, 2, 5)) {
		t.Error("triangles with one common corner")
	}
	if !haveCommonHalfPlane(at(0, 0, 0), at(2, 0, 0), at(0, 3, 0), at(9, 1, 0)) || haveCommonHalfPlane(at(0, 0, 0), at(2, 0, 0), at(0, 3, 0), at(1, -4, 0)) ||
		haveCommonHalfPlane(at(0, 0, 0), at(2, 0, 0), at(0, 3, 0), at(1, 4, 1)) {
		t.Error("triangles with two common corners")
	}
}
