package quadric_test

import (
	"math"
	"math/big"
	"slices"
	"testing"

	"lithophane/api"
	"lithophane/quadric"
	"lithophane/wide"
)

// valueOf returns the value of the quadric of tri at p.
func valueOf(tri api.Tri, p api.Point) api.Wide { return quadric.At(quadric.Of(tri), p) }

// refSquare returns the square of the determinant of the vectors from the first corner to
// the others and to p.
func refSquare(tri api.Tri, p api.Point) api.Wide {
	determinant := refDeterminant(bigVector(tri[0], tri[1]), bigVector(tri[0], tri[2]), bigVector(tri[0], p))
	return wideOf(product(determinant, determinant))
}

// P10.5: the value of the quadric of a triangle is the square of a determinant.
func TestP10_5Determinant(t *testing.T) {
	zeros, others := 0, 0
	forSpaces(121, 1000, func(g *generator, space []int) {
		tri, p := g.tri(space), g.point(space)
		want := refSquare(tri, p)
		if got := valueOf(tri, p); got != want {
			t.Fatalf("At(Of(%v), %v): %s; want %s", tri, p, brief(got), brief(want))
		}
		if want == (api.Wide{}) {
			zeros++
		} else {
			others++
		}
	})
	if min(zeros, others) < 2000 {
		t.Errorf("%d values of 0, %d others", zeros, others)
	}
}

// P10.5: the value is 0 for the corners, and for points of the plane beside the triangle.
func TestP10_5InThePlane(t *testing.T) {
	forSpaces(122, 200, func(g *generator, space []int) {
		tri := g.tri(space)
		for _, p := range tri {
			if got := valueOf(tri, p); got != (api.Wide{}) {
				t.Fatalf("At(Of(%v), %v): %s", tri, p, brief(got))
			}
		}
	})
	numbers := []int{-900, -31, -2, -1, 0, 1, 2, 17, 60000}
	forSpaces(123, 200, func(g *generator, space []int) {
		if slices.Max(space) > 1<<20 || slices.Min(space) < -1<<20 {
			return
		}
		tri := g.tri(space)
		i, j := pick(g, numbers), pick(g, numbers)
		a, b, c := tri[0], tri[1], tri[2]
		p := at(a.X+i*(b.X-a.X)+j*(c.X-a.X), a.Y+i*(b.Y-a.Y)+j*(c.Y-a.Y), a.Z+i*(b.Z-a.Z)+j*(c.Z-a.Z))
		if got := valueOf(tri, p); got != (api.Wide{}) {
			t.Fatalf("At(Of(%v), %v): %s", tri, p, brief(got))
		}
	})
}

// P10.5: the value is not 0 for the points next to the plane: exact ones tell them apart
// however great the coordinates are.
func TestP10_5NextToThePlane(t *testing.T) {
	const least, most = math.MinInt, math.MaxInt
	for _, tri := range []api.Tri{
		{at(0, 0, 0), at(1, 0, 0), at(0, 1, 0)}, {at(least, least, 7), at(most, least, 7), at(least, most, 7)}, {at(3, 0, 0), at(0, -7, 0), at(0, 0, 4)},
		{at(least, 0, 0), at(0, least, 0), at(0, 0, least)}, {at(least, least, least), at(most, most, most-1), at(least, 5, 1)},
		{at(api.MaxCoord, 0, 0), at(0, api.MaxCoord, 1), at(1, 2, api.MaxCoord)},
	} {
		for _, corner := range tri {
			for k := range 6 {
				p := corner
				step := 1 - k%2*2
				switch k / 2 {
				case 0:
					p.X += step
				case 1:
					p.Y += step
				case 2:
					p.Z += step
				}
				if got, want := valueOf(tri, p), refSquare(tri, p); got != want || wide.Sign(got) < 0 {
					t.Fatalf("At(Of(%v), %v): %s; want %s", tri, p, brief(got), brief(want))
				}
			}
		}
	}
	for _, p := range []api.Point{at(0, 0, 8), at(most, least, 6), at(-1, 5, 8)} {
		want := refSquare(api.Tri{at(least, least, 7), at(most, least, 7), at(least, most, 7)}, p)
		if got := valueOf(api.Tri{at(least, least, 7), at(most, least, 7), at(least, most, 7)}, p); got != want || got == (api.Wide{}) {
			t.Fatalf("At %v: %s; want %s", p, brief(got), brief(want))
		}
	}
}

// P10.5: the value is 0 everywhere, if the triangle is flat, and somewhere not, if it is not.
func TestP10_5Flat(t *testing.T) {
	for _, tri := range flatTris() {
		for _, p := range []api.Point{{}, at(1, -1, 2), at(math.MinInt, math.MaxInt, math.MinInt), at(5, 6, 8), tri[1]} {
			if got := valueOf(tri, p); got != (api.Wide{}) {
				t.Fatalf("At(Of(%v), %v): %s", tri, p, brief(got))
			}
		}
	}
	forSpaces(124, 200, func(g *generator, space []int) {
		tri := g.tri(space)
		somewhere := false
		for _, p := range []api.Point{{}, at(1, 0, 0), at(0, 1, 0), at(0, 0, 1)} {
			somewhere = somewhere || valueOf(tri, p) != api.Wide{}
		}
		if isFlat := refOf(tri) == (api.Quadric{}); somewhere == isFlat {
			t.Fatalf("%v: flat: %v, a value that is not 0: %v", tri, isFlat, somewhere)
		}
	})
}

// P10.5: Of does not depend on the order of the corners.
func TestP10_5Orders(t *testing.T) {
	forSpaces(125, 400, func(g *generator, space []int) {
		tri := g.tri(space)
		want := quadric.Of(tri)
		for _, other := range orders(tri) {
			checkOf(t, other, want)
		}
	})
}

// P10.5: Sum is commutative and associative.
func TestP10_5Commutative(t *testing.T) {
	forQuadrics(126, 2000, func(g *generator, a api.Quadric) {
		b, c := g.quadric(), g.quadric()
		if g.below(4) == 0 {
			b, c = quadric.Of(g.tri(pick(g, spaces()))), negative(a)
		}
		checkSum(t, a, b, quadric.Sum(b, a))
		checkSum(t, a, quadric.Sum(b, c), quadric.Sum(quadric.Sum(a, b), c))
	})
}

// P10.5: the value of a sum is the sum of the values, also for arbitrary quadrics.
func TestP10_5AtOfSum(t *testing.T) {
	forQuadrics(127, 1000, func(g *generator, a api.Quadric) {
		for _, space := range spaces() {
			b, p := g.quadric(), g.point(space)
			switch g.below(5) {
			case 0:
				b = quadric.Of(g.tri(space))
			case 1:
				b = negative(a)
			}
			checkAt(t, quadric.Sum(a, b), p, wide.Add(quadric.At(a, p), quadric.At(b, p)))
		}
	})
}

// P10.5: values of sums of quadrics of triangles are never negative; those of Around are 0
// at the corner itself.
func TestP10_5NeverNegative(t *testing.T) {
	positive := 0
	forSpaces(128, 200, func(g *generator, space []int) {
		l := g.tris(space)
		var sum api.Quadric
		for _, tri := range l {
			sum = quadric.Sum(sum, quadric.Of(tri))
			p := g.point(pick(g, spaces()))
			value := quadric.At(sum, p)
			if wide.Sign(value) < 0 {
				t.Fatalf("%s at %v: %s", brief(l), p, brief(value))
			}
			positive += wide.Sign(value)
			checkAt(t, quadric.Around(l, tri[1]), tri[1], api.Wide{})
		}
	})
	if positive < 5000 {
		t.Errorf("%d values", positive)
	}
}

// P10.5: Around is the sum of Of of the triangles at p, in any order of the list.
func TestP10_5AroundIsASum(t *testing.T) {
	forSpaces(129, 200, func(g *generator, space []int) {
		l := g.tris(space)
		if len(l) == 0 {
			return
		}
		p := l[0][g.below(3)]
		var want api.Quadric
		for i := range l {
			if tri := l[len(l)-1-i]; slices.Contains(tri[:], p) {
				want = quadric.Sum(quadric.Of(tri), want)
			}
		}
		for range 4 {
			checkAround(t, l, p, want)
			shuffle(g, l)
			for i, tri := range l {
				l[i] = pick(g, orders(tri))
			}
		}
	})
}

// P10.5: if a triangle and a point are moved by the same vector, the value stays.
func TestP10_5Moved(t *testing.T) {
	forSpaces(130, 200, func(g *generator, space []int) {
		if slices.Max(space) > 1<<40 || slices.Min(space) < -1<<48 {
			return
		}
		v := g.point([]int{0, 1, -1, 77, -1 << 33, 1 << 61, -1 << 62})
		move := func(p api.Point) api.Point { return at(p.X+v.X, p.Y+v.Y, p.Z+v.Z) }
		tri, p := g.tri(space), g.point(space)
		want := valueOf(tri, p)
		moved := api.Tri{move(tri[0]), move(tri[1]), move(tri[2])}
		if got := valueOf(moved, move(p)); got != want {
			t.Fatalf("%v and %v, moved by %v: %s; want %s", tri, p, v, brief(got), brief(want))
		}
		l := g.tris(space)
		var movedList []api.Tri
		for _, tri := range l {
			movedList = append(movedList, api.Tri{move(tri[0]), move(tri[1]), move(tri[2])})
		}
		corner := g.point(space)
		if len(l) > 0 {
			corner = l[0][0]
		}
		checkAt(t, quadric.Around(movedList, move(corner)), move(p), quadric.At(quadric.Around(l, corner), p))
	})
}

// P10.5: a triangle of twice the size has 16 times the values.
func TestP10_5Enlarged(t *testing.T) {
	forSpaces(131, 200, func(g *generator, space []int) {
		if slices.Max(space) > 1<<40 || slices.Min(space) < -1<<48 {
			return
		}
		tri, p := g.tri(space), g.point(space)
		enlarged := tri
		for i, corner := range tri[1:] {
			enlarged[i+1] = at(2*corner.X-tri[0].X, 2*corner.Y-tri[0].Y, 2*corner.Z-tri[0].Z)
		}
		if got, want := valueOf(enlarged, p), wide.Mul(wide.From(16), valueOf(tri, p)); got != want {
			t.Fatalf("%v at %v: %s; want %s", enlarged, p, brief(got), brief(want))
		}
		if got, want := bigOf(quadric.Of(enlarged)[9]), product(big.NewInt(16), bigOf(quadric.Of(tri)[9])); got.Cmp(want) != 0 {
			t.Fatalf("constant of %v: %v; want %v", enlarged, got, want)
		}
	})
}
