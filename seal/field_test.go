package seal_test

import (
	"slices"
	"testing"

	"lithophane/api"
	"lithophane/seal"
)

// P7.3: the document's examples.
func TestP7_3Examples(t *testing.T) {
	field := fieldOfVertices(2, vertex{2, 2, 2})
	checkSeal(t, star(vertex{2, 2, 2}), 2, field, nil)
	checkSeal(t, star(vertex{2, 2, 2})[1:], 2, field, []api.Patch{patch(face(1, 2, 2, 1), 2, 1)})
	checkSeal(t, []api.Edge{edge(2, 1, 1, 0)}, 2, fieldOfVertices(2), []api.Patch{patch(face(0, 1, 0, 0), 0, 1)})
}

// P7.3: the six edges at a vertex separate it from all others.
func TestP7_3Star(t *testing.T) {
	for level := 1; level <= 3; level++ {
		for _, v := range refGridOf(level).vertices {
			if !refGridOf(level).isBorderVertex(v) {
				checkSeal(t, star(v), level, fieldOfVertices(level, v), nil)
				check(t, star(v), level)
			}
		}
	}
	for _, level := range levels() {
		n := cells(level)
		for _, v := range []vertex{{1, 1, 1}, {n - 1, n - 1, n - 1}, {1, n / 2, n - 1}, {n / 2, n - 1, 1}} {
			field, patches := seal.Seal(star(v), level)
			number := (v[2]*(n+1)+v[1])*(n+1) + v[0]
			if len(patches) != 0 || field.Level != level || len(field.In) != (n+1)*(n+1)*(n+1) || !slices.Equal(insideOf(field), []int{number}) {
				t.Errorf("Seal of the edges at %v, level %d: %v, %v", v, level, insideOf(field), patches)
			}
		}
	}
}

// P7.3: at the border of the grid, no vertex is inside in the field, though in the
// sense of P7.3 the patch of a wall beside a side of the grid separates some there.
func TestP7_3BorderVertices(t *testing.T) {
	for axis := range 3 {
		for side, x := range []int{0, 7} {
			s := check(t, wall(axis, x, 2, 6), 3)
			for v, inside := range s.inside {
				if want := v[axis] == 8*side && inSquare(v, axis, 2, 6); inside != want {
					t.Errorf("the vertex %v: %v", v, inside)
				}
			}
			checkSeal(t, wall(axis, x, 2, 6), 3, fieldOfVertices(3), s.patches)
		}
		for side, x := range []int{2, 13} {
			want := fieldOf(4, func(v vertex) bool {
				return inSquare(v, axis, 1, 15) && (side == 0 && v[axis] >= 1 && v[axis] <= 2 || side == 1 && v[axis] >= 14 && v[axis] <= 15)
			})
			checkSeal(t, wall(axis, x, 1, 15), 4, want, refSeal(wall(axis, x, 1, 15), 4).patches)
		}
	}
}

// inSquare reports whether the coordinates along the other axes are from first to last.
func inSquare(v vertex, axis, first, last int) bool {
	u, w := v[(axis+1)%3], v[(axis+2)%3]
	return first <= min(u, w) && max(u, w) <= last
}

// P7.3: the fields of many lists.
func TestP7_3Lists(t *testing.T) {
	var inside, atBorder, patched int
	forLists(731, [5]int{0, 100, 500, 500, 40}, func(g *generator, l []api.Edge, level int) {
		s := check(t, l, level)
		isInside := slices.Contains(s.field.In, true)
		isBorder := false
		for v, in := range s.inside {
			isBorder = isBorder || in && s.grid.isBorderVertex(v)
		}
		add(&inside, isInside && !isBorder)
		add(&atBorder, isInside && isBorder)
		add(&patched, isInside && len(s.patches) > 1)
	})
	if min(inside, atBorder, patched) < 50 {
		t.Errorf("fields: %d with inside vertices, %d with such at the border, %d with patches", inside, atBorder, patched)
	}
}

// P7.3: no edges, and such that are not given: all vertices are outside.
func TestP7_3NoEdges(t *testing.T) {
	for _, level := range levels() {
		want := fieldOfVertices(level)
		e := edge(0, 0, 1, 1)
		for _, l := range [][]api.Edge{nil, {}, strange(level), {e, e}, {e, edge(1, 1, 0, 1), edge(1, 1, 0, 1), e}} {
			checkSeal(t, l, level, want, nil)
		}
	}
	for level := 1; level <= 4; level++ {
		for _, l := range [][]api.Edge{bordering(level), lastOnes(level), append(refGridOf(level).edges, refGridOf(level).innerEdges()...)} {
			checkSeal(t, l, level, fieldOfVertices(level), nil)
		}
	}
}

// P7.3: edges that are not given have no effect: each alone among others, and all.
func TestP7_3NotGiven(t *testing.T) {
	g := generator(732)
	for level := 1; level <= 3; level++ {
		others := slices.Concat(strange(level), bordering(level), lastOnes(level))
		for range 10 {
			l := g.clump(level, 10)
			checkSame(t, l, append(slices.Clone(others), l...), level)
			checkSame(t, l, shuffled(&g, append(slices.Clone(others), l...)), level)
			for range 10 {
				checkSame(t, l, append(slices.Clone(l), pick(&g, others)), level)
			}
		}
	}
	l := star(vertex{1, 1, 1})[1:]
	checkSame(t, l, append(strange(8), l...), 8)
}

// P7.3: all edges of a level: the patch takes away those along y and z but at the
// border, so that every second layer along x is inside.
func TestP7_3AllEdges(t *testing.T) {
	for level := 2; level <= 5; level++ {
		n := cells(level)
		want := fieldOf(level, func(v vertex) bool { return v[0]%2 == 1 && inSquare(v, 0, 1, n-1) })
		size := 2*(n-1)*(n-1)*(n-2) + 2*(n-1)*(n-2)
		checkSeal(t, refGridOf(level).edges, level, want, []api.Patch{patch(face(0, 1, 1, 0), 0, size)})
		checkSeal(t, refGridOf(level).innerEdges(), level, want, []api.Patch{patch(face(0, 1, 1, 0), 0, size)})
	}
}

// P7.3: for other levels the field is the zero value.
func TestP7_3NoLevel(t *testing.T) {
	for _, level := range noLevels() {
		for _, l := range [][]api.Edge{nil, {}, star(vertex{1, 1, 1}), star(vertex{2, 2, 2})[1:], strange(2)} {
			field, patches := seal.Seal(l, level)
			if field.Level != 0 || len(field.In) != 0 || len(patches) != 0 {
				t.Errorf("Seal, level %d: level %d, %d vertices, %d patches", level, field.Level, len(field.In), len(patches))
			}
		}
	}
}
