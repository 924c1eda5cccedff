package seal_test

import (
	"slices"
	"testing"

	"lithophane/api"
	"lithophane/grid"
	"lithophane/seal"
)

// checkLarge checks a list of level 8.
func checkLarge(t *testing.T, l []api.Edge, want api.Field, patches []api.Patch) {
	t.Helper()
	field, got := seal.Seal(l, 8)
	if !slices.Equal(got, patches) {
		t.Errorf("Seal of %d edges: %d patches %s; want %d: %s", len(l), len(got), brief(got), len(patches), brief(patches))
	}
	if !sameField(field, want) {
		t.Errorf("Seal of %d edges: %d inside vertices; want %d", len(l), len(insideOf(field)), len(insideOf(want)))
	}
}

// apart returns edges at level 8 that have no cells in common, and their patches.
func apart(g *generator, part int) ([]api.Edge, []api.Patch) {
	var l []api.Edge
	var patches []api.Patch
	for x := 1; x < 255; x += 2 {
		for y := 1; y < 255; y += 2 {
			for z := 1; z < 255; z += 2 {
				if g.below(part) == 0 {
					e := edge(g.below(3), x, y, z)
					l = append(l, e)
					patches = append(patches, onePatch(e))
				}
			}
		}
	}
	slices.SortFunc(patches, func(p, q api.Patch) int { return compareFaces(p.Least, q.Least) })
	return shuffled(g, l), patches
}

// P7.1, P7.2: hundreds of thousands of edges at level 8, each of which is a component
// of its own.
func TestP7_2LargeApart(t *testing.T) {
	g := generator(726)
	l, patches := apart(&g, 8)
	if len(l) < 200000 {
		t.Fatalf("%d edges", len(l))
	}
	checkLarge(t, l, fieldOfVertices(8), patches)
	odd := seal.Odd(l, 8)
	if len(odd) != 4*len(l) || !slices.IsSortedFunc(odd, compareFaces) || len(slices.Compact(odd)) != 4*len(l) {
		t.Errorf("Odd of %d edges: %d faces", len(l), len(odd))
	}
	checkLarge(t, append(l, l...), fieldOfVertices(8), nil)
	checkOdd(t, append(l, l...), 8, nil)
	checkLarge(t, slices.Concat(l, l, l), fieldOfVertices(8), patches)
}

// ball is the field of a ball at level 8 with a hollow.
func ball() api.Field {
	return fieldOf(8, func(v vertex) bool {
		d := (v[0]-128)*(v[0]-128) + (v[1]-120)*(v[1]-120) + (v[2]-130)*(v[2]-130)
		return 40*40 < d && d < 119*119
	})
}

// P7.5: the edges of a large field at level 8, and with thousands added or taken away.
func TestP7_5LargeField(t *testing.T) {
	g := generator(756)
	field := ball()
	edges := outwards(field)
	if len(edges) < 200000 {
		t.Fatalf("%d edges", len(edges))
	}
	checkLarge(t, shuffled(&g, edges), field, nil)
	checkOdd(t, edges, 8, nil)
	others, patches := apart(&g, 50)
	checkLarge(t, append(edges, others...), field, patches)
	checkLarge(t, slices.Concat(others, edges, others), field, nil)
	checkLarge(t, slices.Concat(edges, others, edges), fieldOfVertices(8), patches)
}

// P7.2, P7.3: a box at level 8 of which a whole side, or part of one, is missing: the
// patch restores it.
func TestP7_5LargeBox(t *testing.T) {
	level := 8
	field := fieldOf(level, func(v vertex) bool {
		return 100 < v[0] && v[0] <= 180 && 90 < v[1] && v[1] <= 170 && 80 < v[2] && v[2] <= 160
	})
	l := box(vertex{100, 90, 80}, vertex{180, 170, 160}, level)
	edges := grid.Cross(l, level)
	if !sameEdges(edges, outwards(field)) {
		t.Fatal("Cross of a box")
	}
	checkLarge(t, edges, field, nil)
	leasts := []api.Face{face(1, 100, 91, 80), face(1, 180, 91, 80), face(0, 101, 90, 80), face(0, 101, 170, 80), face(0, 101, 90, 80), face(0, 101, 90, 160)}
	for side, least := range leasts {
		open := grid.Cross(slices.Delete(slices.Clone(l), 2*side, 2*side+2), level)
		dir := 0
		if least.Axis == 1 {
			dir = 2
		}
		checkLarge(t, open, field, []api.Patch{patch(least, dir, 6400)})
	}
}

// P7.2, P7.3: the largest walls at level 8: they are closed towards the nearer side of
// the grid, or restored and cancelled, whichever needs fewer edges.
func TestP7_3LargeWalls(t *testing.T) {
	for _, c := range []struct{ x, dir, edges, first, last int }{
		{0, 0, 1020, 0, 0}, {62, 0, 63 * 1020, 1, 62}, {63, 2, 65025, 0, 0}, {128, 2, 65025, 0, 0},
		{192, 2, 65025, 0, 0}, {193, 1, 63 * 1020, 194, 255}, {255, 1, 1020, 0, 0},
	} {
		want := fieldOf(8, func(v vertex) bool { return c.first > 0 && c.first <= v[0] && v[0] <= c.last && inSquare(v, 0, 1, 255) })
		checkLarge(t, wall(0, c.x, 1, 255), want, []api.Patch{patch(face(1, c.x, 1, 0), c.dir, c.edges)})
	}
}

// P7.2: a chain of tens of thousands of edges at level 8 is one component; without
// the edge that joins its halves it is two.
func TestP7_2LargeChain(t *testing.T) {
	l := snake(2, 77, 255, 128)
	least := face(0, 1, 0, 77)
	checkLarge(t, l, fieldOfVertices(8), []api.Patch{patch(least, 0, len(l))})
	half := slices.Index(l, edge(2, 1, 128, 77))
	halves := []api.Patch{patch(least, 0, half), patch(face(0, 1, 128, 77), 0, len(l)-half-1)}
	checkLarge(t, slices.Delete(l, half, half+1), fieldOfVertices(8), halves)
}

// P7.4: a long list without any order at level 8: behind the patches, the field
// separates; so the edges that are outwards in it make the same field again.
func TestP7_4LargeList(t *testing.T) {
	g := generator(744)
	l := append(outwards(ball()), g.scattered(8, 60000)...)
	l = append(l, g.sheets(8, 3)...)
	field, patches := seal.Seal(l, 8)
	if len(patches) < 1000 || len(insideOf(field)) < 100000 {
		t.Errorf("%d patches, %d inside vertices", len(patches), len(insideOf(field)))
	}
	checkLarge(t, outwards(field), field, nil)
	checkLarge(t, shuffled(&g, l), field, patches)
}
