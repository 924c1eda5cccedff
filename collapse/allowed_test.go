package collapse_test

import (
	"math"
	"slices"
	"testing"

	"lithophane/api"
	"lithophane/mesh"
)

// hexagon is the ring of a disc; scaled, it is what is around.
func hexagon() []api.Point {
	return []api.Point{at(-10, 0, 0), at(-5, -9, 0), at(5, -9, 0), at(10, 0, 0), at(5, 9, 0), at(-5, 9, 0)}
}

// tent is a disc around a hexagon, with the hub above it, and what is around below.
func tent() []api.Tri {
	return disc(at(0, 0, 10), hexagon(), placedPoints(scaled(hexagon(), 3), at(0, 0, -20)))
}

func placedPoints(points []api.Point, by api.Point) []api.Point {
	var all []api.Point
	for _, p := range points {
		all = append(all, sum(p, by))
	}
	return all
}

// square is the ring of a wheel whose corners are all at the border.
func square() []api.Point {
	return []api.Point{at(10, 0, 0), at(0, 10, 0), at(-10, 0, 0), at(0, -10, 0)}
}

// P11.2: all conditions hold for the hub of a tent, into each corner of its ring.
func TestP11_2Allowed(t *testing.T) {
	for _, p := range hexagon() {
		checkBroken(t, tent(), at(0, 0, 10), p)
		checkBroken(t, append(tent(), octahedron(900)...), at(0, 0, 10), p)
	}
	checkBroken(t, disc(at(0, 0, 0), hexagon(), scaled(hexagon(), 2)), at(0, 0, 0), at(-10, 0, 0)) // all in a plane
}

// P11.2: lists without the corners, and empty ones.
func TestP11_2NoCorners(t *testing.T) {
	points := []api.Point{{}, at(0, 0, 10), at(-10, 0, 0), at(math.MinInt, 0, math.MaxInt)}
	for _, l := range [][]api.Tri{nil, {}, octahedron(7), tent()} {
		for _, u := range points {
			for _, v := range points {
				checkAllowed(t, l, u, v, len(l) == len(tent()) && u == points[1] && v == points[2])
			}
		}
	}
}

// P11.2: all edges of an octahedron in both directions, and its opposite corners.
func TestP11_2Octahedron(t *testing.T) {
	for _, size := range []int{1, 10, api.MaxCoord, math.MaxInt} {
		l := octahedron(size)
		for _, u := range mesh.Corners(l) {
			for _, v := range mesh.Corners(l) {
				isOpposite := sum(u, v) == api.Point{}
				checkAllowed(t, l, u, v, u != v && !isOpposite)
			}
		}
	}
}

// P11.2, document's example: no edge of a tetrahedron.
func TestP11_2Tetrahedron(t *testing.T) {
	for _, l := range [][]api.Tri{tetrahedron(), turned(tetrahedron()), placed(tetrahedron(), func(p api.Point) api.Point { return at(9*p.X, 7*p.Y, 5*p.Z) })} {
		for _, u := range mesh.Corners(l) {
			for _, v := range mesh.Corners(l) {
				checkAllowed(t, l, u, v, false)
				if u != v && !slices.Contains(refListOf(l).broken(u, v), 4) {
					t.Errorf("%v into %v: condition 4 holds", u, v)
				}
			}
		}
	}
}

// P11.2, condition 1: each error of mesh.CheckOpen, far from the collapse, alone; and
// the same list without one of the triangles that cause it.
func TestP11_2Refused(t *testing.T) {
	for kind, faulty := range refused() {
		l := append(tent(), faulty...)
		if got := mesh.CheckOpen(l); got != kind {
			t.Fatalf("%s: %v; want %v", brief(l), got, kind)
		}
		checkBroken(t, l, at(0, 0, 10), at(-10, 0, 0), 1)
		checkBroken(t, l[:len(l)-len(faulty)], at(0, 0, 10), at(-10, 0, 0))
		if kind != api.ErrCorner {
			checkBroken(t, append(tent(), faulty[1:]...), at(0, 0, 10), at(-10, 0, 0))
		}
	}
}

// P11.2, condition 1: faults among the triangles that are moved.
func TestP11_2RefusedNearBy(t *testing.T) {
	u, v := at(0, 0, 10), at(-10, 0, 0)
	for _, faulty := range [][]api.Tri{
		tris(u, u, v), tris(u, v, v), tris(u, u, u), tris(v, v, at(90, 0, 0)), {tent()[0]}, {tent()[2]}, tris(u, v, at(90, 0, 0)), tris(u, at(90, 0, 0), at(90, 1, 0)),
		tris(v, at(90, 0, 0), at(90, 1, 0)),
	} {
		l := append(tent(), faulty...)
		if numbers := refListOf(l).broken(u, v); !slices.Contains(numbers, 1) {
			t.Fatalf("%s: conditions %v", brief(faulty), numbers)
		}
		checkAllowed(t, l, u, v, false)
	}
}

// P11.2, condition 2: corners that are not joined, but have two common neighbours: the
// hubs of two wheels, whose rings have two opposite corners in common.
func TestP11_2NotJoined(t *testing.T) {
	u, v := at(0, 0, 0), at(0, 0, 5)
	upper := wheel(v, at(10, 0, 0), at(0, 10, 30), at(-10, 0, 0), at(0, -10, 30))
	l := append(wheel(u, square()...), upper...)
	checkBroken(t, l, u, v, 2)
	// With a triangle at u and v, both are at the border, and have a further common
	// neighbour, or none but these.
	checkAllowed(t, append(l, api.Tri{u, v, at(99, 99, 99)}), u, v, false)
	checkBroken(t, l, u, at(0, 10, 0), 5)
}

// P11.2, condition 2: u is at the border, and v inside or at the border as well.
func TestP11_2AtTheBorder(t *testing.T) {
	for _, p := range square() {
		checkBroken(t, wheel(at(0, 0, 9), square()...), p, at(0, 0, 9), 2)
	}
	a, b, c, d := at(0, 0, 0), at(10, 0, 0), at(10, 10, 0), at(0, 10, 0)
	checkBroken(t, tris(a, b, c, a, c, d), a, c, 2)
	checkBroken(t, tris(a, b, c, a, c, d), c, a, 2)
	// An edge of the border: c is a common neighbour, and d, by two further triangles.
	e := at(0, -9, 30)
	checkBroken(t, tris(a, b, c, a, c, d, b, d, e), a, b, 2)
	checkBroken(t, tris(a, b, c, a, c, d, b, d, e), b, a, 2, 5)
}

// P11.2, condition 2: v is at the border, and u inside; all conditions hold.
func TestP11_2IntoTheBorder(t *testing.T) {
	ring := []api.Point{at(-10, 0, 0), at(5, -9, 0), at(5, 9, 0)}
	for _, p := range ring {
		checkBroken(t, wheel(at(0, 0, 4), ring...), at(0, 0, 4), p)
		checkBroken(t, wheel(at(0, 0, 0), ring...), at(0, 0, 0), p)
	}
}

// P11.2, condition 2: a point is not joined with itself.
func TestP11_2SamePoint(t *testing.T) {
	forShapes(31, 3, func(g *generator, name string, l []api.Tri) {
		for _, p := range mesh.Corners(l) {
			checkAllowed(t, l, p, p, false)
		}
	})
}

// P11.2, condition 3: one common neighbour.
func TestP11_2OneCommonNeighbour(t *testing.T) {
	a, b, c := at(0, 0, 0), at(10, 0, 0), at(0, 10, 0)
	l := tris(a, b, c, a, c, b)
	checkBroken(t, l, a, b, 3)
	checkBroken(t, l, c, b, 3)
	checkBroken(t, bipyramid(3, 40, 30), at(0, 0, 30), at(40, 0, 0)) // two, and three triangles at u
}

// P11.2, condition 3: three and more common neighbours, by triangles elsewhere.
func TestP11_2MoreCommonNeighbours(t *testing.T) {
	u, v := at(0, 0, 9), square()[0]
	l := wheel(u, square()...)
	checkBroken(t, append(l, api.Tri{v, square()[2], at(0, 5, 50)}), u, v, 3)
	checkBroken(t, append(l, api.Tri{square()[2], v, at(0, 5, 50)}), u, v, 3)
	// With triangles from v to several corners of the ring, until it is joined with all.
	l = wheel(u, hexagon()...)
	v = hexagon()[0]
	checkBroken(t, l, u, v, 5)
	for k, numbers := range map[int][]int{2: {3, 5}, 3: {3, 5}, 4: {3}} {
		more := slices.Clone(l)
		for i := 2; i <= k; i++ {
			more = append(more, api.Tri{v, hexagon()[i], at(10*i, 5, 50)})
		}
		checkBroken(t, more, u, v, numbers...)
	}
	// A tunnel around which three corners lie: they are joined, but there is no triangle.
	thin := tube(3, 2, 40, 10)
	corners := []api.Point{at(40, 0, 10), at(-20, 35, 10), at(-20, -35, 10)}
	near := with(with(thin, corners[1], at(20, 2, 10)), corners[0], at(22, -2, 10))
	checkBroken(t, near, at(22, -2, 10), at(20, 2, 10), 3)
}

// P11.2, condition 4: two triangles with the same corners, far from the collapse; and
// such that have two corners in common.
func TestP11_2Twins(t *testing.T) {
	checkBroken(t, append(tent(), twins()...), at(0, 0, 10), at(-10, 0, 0), 4)
	checkBroken(t, append(tent(), with(twins()[:1], at(1000, 0, 0), at(1000, 0, 1))...), at(0, 0, 10), at(-10, 0, 0))
	a, b, c := at(1000, 0, 0), at(1010, 0, 0), at(1000, 10, 0)
	checkBroken(t, append(tent(), tris(a, b, c, a, c, at(1010, 0, 1))...), at(0, 0, 10), at(-10, 0, 0))
	// The same corners in the same order are an error of mesh.CheckOpen.
	checkBroken(t, append(tent(), tris(a, b, c, b, c, a)...), at(0, 0, 10), at(-10, 0, 0), 1, 4)
}

// P11.2, condition 4: a moved triangle has the corners of another one: u has three
// neighbours, which have a triangle already.
func TestP11_2MadeTwins(t *testing.T) {
	ring := []api.Point{at(-10, 0, 0), at(5, -9, 0), at(5, 9, 0)}
	l := wheel(at(0, 0, 4), ring...)
	checkBroken(t, append(l, api.Tri{ring[0], ring[2], ring[1]}), at(0, 0, 4), ring[0], 4, 7)
	checkBroken(t, append(l, api.Tri{ring[0], ring[2], at(5, -9, -1)}), at(0, 0, 4), ring[0])
}

// P11.2, condition 5: corners at the border that were not joined: opposite ones of a
// square; not if one of them is inside, or if all are joined already.
func TestP11_2BordersJoined(t *testing.T) {
	u := at(0, 0, 9)
	l := wheel(u, square()...)
	for _, p := range square() {
		checkBroken(t, l, u, p, 5)
	}
	e := at(-20, 0, -10)
	closed := append(l, tris(at(-10, 0, 0), at(0, 10, 0), e, at(0, -10, 0), at(-10, 0, 0), e)...)
	checkBroken(t, closed, u, at(10, 0, 0))
	checkBroken(t, closed, u, at(-10, 0, 0))
	checkBroken(t, closed, u, at(0, 10, 0), 5)
	checkBroken(t, closed[:len(closed)-1], u, at(10, 0, 0), 5)
}

// P11.2: many collapses; each condition is the only one that does not hold for some.
func TestP11_2Many(t *testing.T) {
	alone := map[int]int{}
	check := func(l []api.Tri, u, v api.Point) {
		numbers := refListOf(l).broken(u, v)
		checkAllowed(t, l, u, v, len(numbers) == 0)
		switch len(numbers) {
		case 0:
			alone[0]++
		case 1:
			alone[numbers[0]]++
		}
	}
	forSoups(32, 120, func(g *generator, l []api.Tri) {
		for _, u := range mesh.Corners(l) {
			for _, v := range mesh.Corners(l) {
				check(l, u, v)
			}
		}
	})
	faults := refused()
	forShapes(33, 20, func(g *generator, name string, l []api.Tri) {
		if g.below(10) == 0 {
			l = append(l, faults[pick(g, []api.Errno{api.ErrCorner, api.ErrEdge, api.ErrPinch})]...)
		}
		for range min(len(l), 30) {
			tri, k := pick(g, l), g.below(3)
			check(l, tri[k], tri[(k+1)%3])
			check(l, tri[k], pick(g, l)[k])
		}
	})
	for k := range 8 {
		if alone[k] < 5 {
			t.Errorf("alone: %v", alone)
		}
	}
}

// P11.2: neither the order of the triangles nor that of their corners has an effect.
func TestP11_2Orders(t *testing.T) {
	forShapes(34, 4, func(g *generator, name string, l []api.Tri) {
		for range min(len(l), 20) {
			tri, k := pick(g, l), g.below(3)
			u, v := tri[k], tri[(k+1+g.below(2))%3]
			want := len(refListOf(l).broken(u, v)) == 0
			for range 4 {
				checkAllowed(t, g.shuffled(l), u, v, want)
			}
		}
	})
}
