package grid_test

import (
	"math"
	"slices"
	"testing"

	"lithophane/api"
	"lithophane/grid"
)

// P6.2: the document's examples.
func TestP6_2Examples(t *testing.T) {
	for _, x := range []struct {
		t    api.Tri
		want []api.Edge
	}{
		{first(), []api.Edge{firstEdge()}},
		{api.Tri{at(half, 0, 0), at(half, most, most), at(half, 0, most)}, nil},
		{api.Tri{at(half-1, 0, 0), at(half-1, most, 0), at(half-1, most, most)}, []api.Edge{edge(0, 0, 1, 1)}},
		{api.Tri{at(0, 0, 0), at(0, 0, 1), at(0, 0, 2)}, nil},
	} {
		checkCross(t, []api.Tri{x.t}, 1, x.want)
	}
}

// P6.2: for lists, the edges that follow from the definitions.
func TestP6_2Lists(t *testing.T) {
	g := generator(62)
	odd := 0
	for level, rounds := range []int{0, 400, 80, 12} {
		for range rounds {
			l := g.triangles(level, g.below(7))
			want := refCross(l, allEdges(level), level)
			odd += len(want)
			checkCross(t, l, level, want)
		}
	}
	if odd < 1000 {
		t.Errorf("edges that are crossed: %d", odd)
	}
}

// P6.2: of triangles that are small at their level, at all levels.
func TestP6_2SmallTriangles(t *testing.T) {
	g := generator(63)
	for _, level := range levels() {
		odd := 0
		for range 200 {
			l := []api.Tri{g.nearby(level)}
			want := refCross(l, around(l[0], level), level)
			odd += len(want)
			checkCross(t, l, level, want)
		}
		if odd < 50 {
			t.Errorf("level %d: edges that are crossed: %d", level, odd)
		}
	}
}

// P6.2: Cross of a triangle alone are the edges for which Crosses is true.
func TestP6_2CrossesAgrees(t *testing.T) {
	g := generator(64)
	for level, rounds := range []int{0, 500, 300, 100, 20} {
		for range rounds {
			s := g.triangle(level)
			isCrossed := func(e api.Edge) bool { return !grid.Crosses(s, e, level) }
			checkCross(t, []api.Tri{s}, level, slices.DeleteFunc(allEdges(level), isCrossed))
		}
	}
}

// P6.2: for other levels, there are no edges.
func TestP6_2NoLevel(t *testing.T) {
	for _, level := range []int{math.MinInt, math.MinInt + 1, -64, -8, -1, 0, 9, 10, 20, 21, 22, 63, 64, 65, math.MaxInt} {
		checkCross(t, []api.Tri{first(), first(), first()}, level, nil)
		checkCross(t, append(walls(0), walls(1)...), level, nil)
	}
}

// P6.2: triangles that are not admitted play no part, alone and among others.
func TestP6_2NotAdmitted(t *testing.T) {
	others := append(notAdmitted(), flat()...)
	for _, s := range others {
		checkCross(t, []api.Tri{s}, 1, nil)
		checkCross(t, []api.Tri{s, first(), s, s}, 1, []api.Edge{firstEdge()})
	}
	checkCross(t, others, 8, nil)
	checkCross(t, append(others, first()), 1, []api.Edge{firstEdge()})
	checkCross(t, append([]api.Tri{first()}, others...), 1, []api.Edge{firstEdge()})
	checkCross(t, append([]api.Tri{first()}, append(others, first())...), 1, nil)
}

// P6.2: the same triangle twice crosses nothing; three times, the same as once; and
// edges that are crossed an even number of times may be crossed again.
func TestP6_2SameTriangle(t *testing.T) {
	g := generator(65)
	for _, level := range []int{1, 3, 5} {
		for range 100 {
			s := g.triangle(level)
			once := grid.Cross([]api.Tri{s}, level)
			for count := range 8 {
				want := once
				if count%2 == 0 {
					want = nil
				}
				checkCross(t, slices.Repeat([]api.Tri{s}, count), level, want)
			}
			checkCross(t, []api.Tri{s, turned(s)}, level, nil)
		}
	}
}

// P6.2: the order is by Axis, then by Z, Y and X.
func TestP6_2Order(t *testing.T) {
	l := []api.Tri{
		{at(5, 0, 0), at(5, 0, most), at(5, most, 0)},
		{at(half, 0, 0), at(half, 0, most), at(half, most, 0)},
		{at(0, 9, 0), at(0, 9, most), at(most, 9, 0)},
		{at(0, half, 0), at(0, half, most), at(most, half, 0)},
		{at(0, 0, 77), at(0, most, 77), at(most, 0, 77)},
		{at(0, 0, half), at(0, most, half), at(most, 0, half)},
	}
	want := []api.Edge{
		edge(0, 0, 1, 1), edge(0, 2, 1, 1), edge(0, 0, 2, 1), edge(0, 2, 2, 1), edge(0, 0, 1, 2), edge(0, 2, 1, 2),
		edge(1, 1, 0, 1), edge(1, 2, 0, 1), edge(1, 1, 2, 1), edge(1, 2, 2, 1), edge(1, 1, 0, 2), edge(1, 1, 2, 2),
		edge(2, 1, 1, 0), edge(2, 2, 1, 0), edge(2, 1, 2, 0), edge(2, 1, 1, 2), edge(2, 2, 1, 2), edge(2, 1, 2, 2),
	}
	checkCross(t, l, 2, want)
	slices.Reverse(l)
	checkCross(t, l, 2, want)
	g := generator(66)
	for _, level := range levels() {
		got := grid.Cross(g.triangles(level, 40), level)
		for i := range len(got) - 1 {
			if compareEdges(got[i], got[i+1]) >= 0 {
				t.Fatalf("level %d: %+v, %+v", level, got[i], got[i+1])
			}
		}
	}
}

func compareEdges(a, b api.Edge) int {
	return slices.Compare([]int{a.Axis, a.Z, a.Y, a.X}, []int{b.Axis, b.Z, b.Y, b.X})
}

// P6.2: large triangles at all levels: one that is normal to an axis crosses the
// edges at the lines between its sides.
func TestP6_2LargeNormalToAxis(t *testing.T) {
	for _, level := range levels() {
		n := cells(level)
		var want []api.Edge
		for y := 1; y < n; y++ {
			for x := 1; x+y < n; x++ { // lines with the sum n are moved away from the triangle
				want = append(want, edge(2, x, y, n/2))
			}
		}
		checkCross(t, []api.Tri{{at(0, 0, half), at(most, 0, half), at(0, most, half)}}, level, want)
	}
}

// P6.2: large triangles at all levels: one whose plane contains vertices and lines.
func TestP6_2LargeSlanted(t *testing.T) {
	for _, level := range levels() {
		n := cells(level)
		var want []api.Edge
		for k := 1; k < n; k++ { // vertices in the plane are moved farther along y than along z
			for x := k; x < n; x++ { // and those of the slanted side farther along x
				want = append(want, edge(1, x, k-1, k))
			}
		}
		for k := 1; k < n; k++ {
			for x := k; x < n; x++ {
				want = append(want, edge(2, x, k, k))
			}
		}
		checkCross(t, []api.Tri{{at(0, 0, 0), at(most, 0, 0), at(most, most, most)}}, level, want)
	}
}

// P6.2: many triangles: steps, of which each crosses one edge or none.
func TestP6_2ManyTriangles(t *testing.T) {
	const count = 200000
	const level = 8
	h := size(level)
	var l []api.Tri
	odd := map[api.Edge]bool{}
	for i := range count {
		x, y, z := i*7%256, 1+i*11%255, 1+i*13%255 // some of them several times
		corner := at(x*h+i%h, y*h-2, z*h-2)
		l = append(l, api.Tri{corner, plus(corner, 1, 4), plus(corner, 2, 4)})
		e := edge(0, x, y, z)
		odd[e] = !odd[e]
	}
	var want []api.Edge
	for e, isOdd := range odd {
		if isOdd {
			want = append(want, e)
		}
	}
	slices.SortFunc(want, compareEdges)
	if len(want) < 50000 || len(want) > count-50000 {
		t.Fatalf("edges: %d", len(want))
	}
	checkCross(t, l, level, want)
}
