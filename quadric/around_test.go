package quadric_test

import (
	"math"
	"slices"
	"testing"

	"lithophane/api"
	"lithophane/quadric"
)

// leaning has corners on the axes; what it adds to a sum is leaningQuadric.
func leaning() api.Tri { return api.Tri{at(3, 0, 0), at(0, -7, 0), at(0, 0, 4)} }

func leaningQuadric() api.Quadric {
	return withInts([10]int{784, -672, 1176, -4704, 144, -504, 2016, 441, -3528, 7056})
}

// times returns n times q.
func times(n int, q api.Quadric) api.Quadric {
	var sum api.Quadric
	for range n {
		sum = refSum(sum, q)
	}
	return sum
}

// P10.4: without a triangle at p, the sum is the quadric of zeros.
func TestP10_4NoTriangle(t *testing.T) {
	for _, p := range []api.Point{{}, at(1, 2, 3), at(math.MinInt, 0, math.MaxInt)} {
		checkAround(t, nil, p, api.Quadric{})
		checkAround(t, []api.Tri{}, p, api.Quadric{})
		checkAround(t, []api.Tri{leaning()}, p, api.Quadric{})
		checkAround(t, []api.Tri{leaning(), {at(9, 9, 9), at(8, 9, 9), at(9, 7, 1)}}, p, api.Quadric{})
	}
}

// P10.4: p as the first, the second and the third corner.
func TestP10_4OneTriangle(t *testing.T) {
	for _, tri := range orders(leaning()) {
		for _, p := range tri {
			checkAround(t, []api.Tri{tri}, p, leaningQuadric())
			checkAround(t, []api.Tri{{}, tri, {at(9, 9, 9), at(8, 9, 9), at(9, 7, 1)}}, p, leaningQuadric())
		}
	}
}

// P10.4: all three coordinates of a corner must be those of p.
func TestP10_4EachCoordinate(t *testing.T) {
	l := []api.Tri{{at(1, 2, 3), at(4, 5, 6), at(7, 8, 0)}}
	for _, p := range []api.Point{at(0, 2, 3), at(1, 0, 3), at(1, 2, 0), at(4, 5, 3), at(4, 2, 6), at(7, 5, 6), at(1, 5, 0), at(2, 1, 3), at(8, 7, 0)} {
		checkAround(t, l, p, api.Quadric{})
	}
	checkAround(t, l, at(1, 2, 3), refOf(l[0]))
}

// P10.4: points in the plane of a triangle, inside it or on a side, are not corners.
func TestP10_4NoCorner(t *testing.T) {
	l := []api.Tri{{at(0, 0, 0), at(6, 0, 0), at(0, 6, 0)}, {at(0, 0, 6), at(6, 0, 0), at(0, 6, 0)}}
	for _, p := range []api.Point{at(3, 0, 0), at(0, 3, 0), at(3, 3, 0), at(1, 0, 0), at(1, 1, 0), at(2, 2, 2), at(0, 3, 3), at(-1, 2, 0), at(9, 9, 0)} {
		checkAround(t, l, p, api.Quadric{})
	}
}

// P10.4: several triangles with the corner p, between others: four at each corner of an
// octahedron, where most products cancel.
func TestP10_4Several(t *testing.T) {
	var l []api.Tri
	for _, x := range []int{-5, 5} {
		for _, y := range []int{-5, 5} {
			for _, z := range []int{-5, 5} {
				l = append(l, api.Tri{at(x, 0, 0), at(0, y, 0), at(0, 0, z)})
			}
		}
	}
	checkAround(t, l, at(5, 0, 0), withInts([10]int{0: 2500, 3: -25000, 4: 2500, 7: 2500, 9: 62500}))
	checkAround(t, l, at(0, -5, 0), withInts([10]int{0: 2500, 4: 2500, 6: 25000, 7: 2500, 9: 62500}))
	checkAround(t, l, at(0, 0, 5), withInts([10]int{0: 2500, 4: 2500, 7: 2500, 8: -25000, 9: 62500}))
	checkAround(t, l, at(0, 0, 0), api.Quadric{})
}

// P10.4: a triangle that stands in the list several times counts each time, whether it is
// turned or not.
func TestP10_4Repeated(t *testing.T) {
	for n := range 6 {
		l := slices.Repeat([]api.Tri{{at(9, 9, 9), at(8, 9, 9), at(9, 7, 1)}, leaning()}, n)
		checkAround(t, l, at(0, -7, 0), times(n, leaningQuadric()))
	}
	l := append(orders(leaning()), orders(leaning())...)
	checkAround(t, l, at(0, 0, 4), times(12, leaningQuadric()))
}

// P10.4: flat triangles with the corner p, also with p twice or three times, add nothing,
// wherever they stand in the list.
func TestP10_4Flat(t *testing.T) {
	p, q := at(0, -7, 0), at(5, 6, 7)
	flat := []api.Tri{{p, p, p}, {p, p, q}, {p, q, p}, {q, p, p}, {p, q, q}, {q, p, q}, {q, q, p}, {p, at(0, -8, 0), at(0, 5, 0)}, {at(3, -7, 0), p, at(1, -7, 0)}, {q, q, q}}
	checkAround(t, flat, p, api.Quadric{})
	for _, x := range flat {
		checkAround(t, []api.Tri{x}, p, api.Quadric{})
		checkAround(t, []api.Tri{x, leaning()}, p, leaningQuadric())
		checkAround(t, []api.Tri{leaning(), x, x}, p, leaningQuadric())
	}
	for i := range flat {
		checkAround(t, slices.Concat(flat[:i], []api.Tri{leaning()}, flat[i:], []api.Tri{leaning()}), p, times(2, leaningQuadric()))
	}
}

// P10.4: many lists, at all their corners and at other points.
func TestP10_4Around(t *testing.T) {
	empty, several := 0, 0
	forSpaces(111, 150, func(g *generator, space []int) {
		l := g.tris(space)
		points := []api.Point{g.point(space), g.point(space)}
		for _, tri := range l {
			points = append(points, tri[:]...)
		}
		for _, p := range points {
			want := refAround(l, p)
			checkAround(t, l, p, want)
			at := slices.DeleteFunc(slices.Clone(l), func(tri api.Tri) bool { return !slices.Contains(tri[:], p) || refOf(tri) == api.Quadric{} })
			switch {
			case len(at) == 0:
				empty++
			case len(at) > 1:
				several++
			}
		}
	})
	if empty < 1000 || several < 3000 {
		t.Errorf("%d sums of nothing, %d of several triangles", empty, several)
	}
}

// P10.4: the last example of the document, with the flat triangle on either side.
func TestP10_4Example(t *testing.T) {
	tri := api.Tri{at(0, 0, 2), at(2, 0, 2), at(0, 3, 2)}
	flat := api.Tri{at(0, 0, 2), at(0, 0, 3), at(0, 0, 9)}
	want := withInts([10]int{7: 36, 8: -144, 9: 144})
	checkAround(t, []api.Tri{tri, flat}, at(0, 0, 2), want)
	checkAround(t, []api.Tri{flat, tri}, at(0, 0, 2), want)
	if got := quadric.Of(tri); got != want {
		t.Errorf("Of(%v): %s", tri, text(got))
	}
}
