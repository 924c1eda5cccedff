package seal_test

import (
	"math"
	"slices"
	"testing"

	"lithophane/api"
	"lithophane/seal"
)

// P7.1: the document's examples.
func TestP7_1Examples(t *testing.T) {
	checkOdd(t, star(vertex{2, 2, 2}), 2, nil)
	checkOdd(t, star(vertex{2, 2, 2})[1:], 2, []api.Face{face(1, 2, 2, 1), face(1, 2, 2, 2), face(2, 2, 1, 2), face(2, 2, 2, 2)})
	checkOdd(t, []api.Edge{edge(2, 1, 1, 0)}, 2, []api.Face{face(0, 1, 0, 0), face(0, 1, 1, 0), face(1, 0, 1, 0), face(1, 1, 1, 0)})
}

// P7.1: a single edge has four odd faces around it, of both other axes.
func TestP7_1OneEdge(t *testing.T) {
	for _, level := range levels() {
		n := cells(level)
		for _, x := range []int{0, n / 2, n - 1} {
			for _, y := range []int{1, n - 1} {
				for _, z := range []int{1, n / 2, n - 1} {
					checkOdd(t, []api.Edge{edge(0, x, y, z)}, level, []api.Face{face(1, x, y, z-1), face(1, x, y, z), face(2, x, y-1, z), face(2, x, y, z)})
					checkOdd(t, []api.Edge{edge(1, y, x, z)}, level, []api.Face{face(0, y, x, z-1), face(0, y, x, z), face(2, y-1, x, z), face(2, y, x, z)})
					checkOdd(t, []api.Edge{edge(2, y, z, x)}, level, []api.Face{face(0, y, z-1, x), face(0, y, z, x), face(1, y-1, z, x), face(1, y, z, x)})
				}
			}
		}
	}
}

// P7.1: every single edge of small levels.
func TestP7_1EachEdge(t *testing.T) {
	for level := 1; level <= 3; level++ {
		r := refGridOf(level)
		for _, e := range r.edges {
			want := 4
			if r.isAtBorder(e) {
				want = 0
			}
			if s := check(t, []api.Edge{e}, level); len(s.odd) != want {
				t.Fatalf("Odd of %+v, level %d: %+v", e, level, s.odd)
			}
		}
	}
}

// P7.1: all edges of a small level; so that all faces have four given edges, but for
// those near the border.
func TestP7_1AllEdges(t *testing.T) {
	for level := 1; level <= 4; level++ {
		r, n := refGridOf(level), cells(level)
		s := check(t, r.edges, level)
		if len(s.given) != 3*n*(n-1)*(n-1) {
			t.Errorf("level %d: %d given edges", level, len(s.given))
		}
		checkSame(t, r.edges, r.innerEdges(), level)
		check(t, append(slices.Clone(r.edges), wall(0, 0, 1, n-1)...), level)
	}
}

// P7.1: of many lists, at all small levels.
func TestP7_1Lists(t *testing.T) {
	faces := 0
	forLists(711, [5]int{0, 300, 300, 200, 20}, func(g *generator, l []api.Edge, level int) {
		want := refGridOf(level).odd(refGridOf(level).given(l))
		faces += len(want)
		checkOdd(t, l, level, want)
	})
	if faces < 10000 {
		t.Errorf("odd faces: %d", faces)
	}
}

// P7.1: the order is by Axis, then by Z, Y and X, at all levels.
func TestP7_1Order(t *testing.T) {
	l := []api.Edge{edge(2, 3, 1, 1), edge(2, 1, 3, 1), edge(0, 1, 1, 3), edge(1, 3, 3, 3)}
	want := []api.Face{
		face(0, 1, 2, 1), face(0, 3, 0, 1), face(0, 3, 1, 1), face(0, 1, 3, 1), face(0, 3, 3, 2), face(0, 3, 3, 3),
		face(1, 2, 1, 1), face(1, 3, 1, 1), face(1, 0, 3, 1), face(1, 1, 3, 1), face(1, 1, 1, 2), face(1, 1, 1, 3),
		face(2, 1, 0, 3), face(2, 1, 1, 3), face(2, 2, 3, 3), face(2, 3, 3, 3),
	}
	slices.SortFunc(want, compareFaces)
	checkOdd(t, l, 2, want)
	slices.Reverse(l)
	checkOdd(t, l, 2, want)
	g := generator(712)
	for _, level := range levels() {
		got := seal.Odd(slices.Concat(g.scattered(level, 300), g.clump(level, 300)), level)
		for i := range len(got) - 1 {
			if compareFaces(got[i], got[i+1]) >= 0 {
				t.Fatalf("level %d: %+v, %+v", level, got[i], got[i+1])
			}
		}
	}
}

func compareFaces(f, g api.Face) int {
	return slices.Compare([]int{f.Axis, f.Z, f.Y, f.X}, []int{g.Axis, g.Z, g.Y, g.X})
}

// P7.1: equal edges cancel each other, wherever they are in the list.
func TestP7_1SameEdge(t *testing.T) {
	g := generator(713)
	for _, level := range []int{1, 2, 3, 8} {
		for range 30 {
			l := g.clump(level, 12)
			for count := range 6 {
				many := shuffled(&g, slices.Repeat(l, count))
				want := seal.Odd(l, level)
				if count%2 == 0 {
					want = nil
				}
				checkOdd(t, many, level, want)
			}
		}
	}
	e, f := edge(0, 1, 1, 1), edge(1, 1, 1, 1)
	for _, l := range [][]api.Edge{{e, e}, {e, f, e, f}, {e, f, f, e}, {e, e, e, e}} {
		check(t, l, 2)
		checkSame(t, nil, l, 2)
	}
	for _, l := range [][]api.Edge{{e, e, e}, {e, f, f}, {f, e, f}, {f, f, e}, {e, f, e, f, e}} {
		check(t, l, 2)
		checkSame(t, []api.Edge{e}, l, 2)
	}
}

// P7.1: edges that do not exist are not given: each alone, and among others.
func TestP7_1Strange(t *testing.T) {
	for _, level := range levels() {
		inner := []api.Edge{edge(0, 0, 1, 1), edge(2, 1, 1, 1)}
		want := seal.Odd(inner, level)
		for _, e := range strange(level) {
			checkOdd(t, []api.Edge{e}, level, nil)
			checkOdd(t, append([]api.Edge{e}, inner...), level, want)
			checkOdd(t, append(inner, e), level, want)
		}
		checkOdd(t, strange(level), level, nil)
		checkOdd(t, slices.Concat(strange(level), inner, strange(level)[3:]), level, want)
	}
}

// P7.1: no edge leads from the last vertex of an axis along it.
func TestP7_1LastVertices(t *testing.T) {
	for level := 1; level <= 4; level++ {
		inner := []api.Edge{edge(0, 0, 1, 1), edge(0, cells(level)-1, 1, 1)}
		for _, e := range lastOnes(level) {
			checkOdd(t, []api.Edge{e}, level, nil)
		}
		checkSame(t, inner, append(inner, lastOnes(level)...), level)
	}
	for _, level := range levels() {
		n := cells(level)
		checkOdd(t, []api.Edge{edge(0, n, 1, 1), edge(1, 1, n, 1), edge(2, 1, 1, n)}, level, nil)
	}
}

// P7.1: edges at the border are not given: each alone, and among others.
func TestP7_1Border(t *testing.T) {
	for level := 1; level <= 4; level++ {
		inner := []api.Edge{edge(0, 0, 1, 1), edge(1, 1, 0, 1)}
		want := seal.Odd(inner, level)
		for _, e := range bordering(level) {
			checkOdd(t, []api.Edge{e}, level, nil)
			checkOdd(t, append([]api.Edge{e}, inner...), level, want)
		}
		checkSame(t, inner, append(bordering(level), inner...), level)
		checkSame(t, nil, bordering(level), level)
	}
	for _, level := range levels() {
		n := cells(level)
		for _, x := range []int{0, n} {
			checkOdd(t, []api.Edge{edge(0, 0, x, 1), edge(0, 1, 1, x), edge(1, x, 1, 1), edge(1, 1, 0, x), edge(2, x, 1, 1), edge(2, 1, x, 0)}, level, nil)
		}
	}
}

// P7.1: for other levels there are no faces.
func TestP7_1NoLevel(t *testing.T) {
	for _, level := range noLevels() {
		for _, l := range [][]api.Edge{nil, star(vertex{1, 1, 1}), {edge(2, 1, 1, 0)}, strange(2)} {
			checkOdd(t, l, level, nil)
		}
	}
}

// noLevels are levels that do not exist.
func noLevels() []int {
	return []int{math.MinInt, math.MinInt + 1, math.MinInt + 8, -64, -8, -1, 0, 9, 10, 21, 22, 31, 32, 63, 64, 65, 1<<32 + 2, math.MaxInt - 1, math.MaxInt}
}
