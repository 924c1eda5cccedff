package contour_test

import (
	"maps"
	"slices"
	"testing"

	"lithophane/api"
	"lithophane/contour"
	"lithophane/grid"
	"lithophane/mesh"
	"lithophane/seal"
)

// P8.4: the corners on the grid's edges are exactly the crossings; P8.3: all others lie
// strictly inside of cells.
func TestP8_4Corners(t *testing.T) {
	onEdges, centres := 0, 0
	forFields(841, []int{0, 4, 100, 60, 20, 4}, func(g *generator, f api.Field) {
		var got, want []api.Point
		for _, p := range mesh.Corners(contour.Contour(f)) {
			if isCentre(p, f.Level) {
				centres++
			} else {
				got = append(got, p)
			}
		}
		for e, axis := range mixedEdges(f) {
			want = append(want, crossing(f.Level, e.low, axis))
		}
		slices.SortFunc(want, refCompare)
		if !slices.Equal(got, want) {
			t.Fatalf("Contour of %s: corners %s that are not inside of cells; crossings %s", briefField(f), brief(got), brief(want))
		}
		onEdges += len(got)
	})
	if min(onEdges, centres) < 10000 {
		t.Errorf("corners: %d on edges, %d in cells", onEdges, centres)
	}
}

// P8.3: both cells of a face have the same joined crossings there, in opposite
// directions, and there are no other edges between crossings.
func TestP8_3Faces(t *testing.T) {
	forFields(831, []int{0, 4, 60, 40, 5}, func(g *generator, f api.Field) {
		edges := directedEdges(contour.Contour(f))
		between := map[[2]api.Point]int{}
		for e, number := range edges {
			if !isCentre(e[0], f.Level) && !isCentre(e[1], f.Level) {
				between[e] = number
			}
		}
		want := map[[2]api.Point]int{}
		for _, v := range vertices(0, cells(f.Level)-1) {
			for _, pair := range newRefCell(f, v).joins() {
				want[pair]++
				if edges[[2]api.Point{pair[1], pair[0]}] != 1 {
					t.Fatalf("Contour of %s: no edge back from %v to %v", briefField(f), pair[1], pair[0])
				}
			}
		}
		if !maps.Equal(between, want) {
			t.Fatalf("Contour of %s: %d edges between crossings, want %d", briefField(f), len(between), len(want))
		}
	})
}

// P8.3: a crossing belongs to four cells, in each of which one or two triangles have it
// as a corner; together, they face from its inside vertex to the outside one.
func TestP8_3AroundCrossings(t *testing.T) {
	forFields(832, []int{0, 4, 60, 40, 5}, func(g *generator, f api.Field) {
		around := map[api.Point][]api.Tri{}
		for _, tri := range contour.Contour(f) {
			for i, p := range tri {
				around[p] = append(around[p], api.Tri{p, tri[(i+1)%3], tri[(i+2)%3]})
			}
		}
		for e, axis := range mixedEdges(f) {
			p := crossing(f.Level, e.low, axis)
			outward := [3]int{}
			outward[axis] = 1
			if isInside(f, e.high) {
				outward[axis] = -1
			}
			var cells []vertex
			area := 0
			for _, tri := range around[p] {
				cells = append(cells, cellOf(tri, f.Level))
				area += determinant(vector(p, tri[1]), vector(p, tri[2]), outward)
			}
			slices.SortFunc(cells, func(v, w vertex) int { return slices.Compare(v[:], w[:]) })
			triangles := len(cells)
			if cells = slices.Compact(cells); len(cells) != 4 || triangles > 8 || area <= 0 {
				t.Fatalf("Contour of %s: at %v %d triangles of the cells %v; area %d", briefField(f), p, triangles, cells, area)
			}
		}
	})
}

// components returns the number of sets of connected ones among the vertices.
func components(all []vertex, isJoined func(v, w vertex) bool) int {
	left, count := map[vertex]bool{}, 0
	for _, v := range all {
		left[v] = true
	}
	for _, v := range all {
		if !left[v] {
			continue
		}
		count++
		reached := []vertex{v}
		delete(left, v)
		for i := 0; i < len(reached); i++ {
			for _, step := range vertices(-1, 1) {
				if w := reached[i].add(step); left[w] && isJoined(reached[i], w) {
					delete(left, w)
					reached = append(reached, w)
				}
			}
		}
	}
	return count
}

// axesApart returns along how many axes two vertices differ.
func axesApart(v, w vertex) int {
	count := 0
	for axis := range v {
		add(&count, v[axis] != w[axis])
	}
	return count
}

// P8.3: the parts of the surface are the borders between regions: inside vertices are
// connected along edges, outside ones also across faces. Each part divides the rest.
func TestP8_3Parts(t *testing.T) {
	more := 0
	forFields(833, []int{0, 4, 100, 150, 30, 3}, func(g *generator, f api.Field) {
		others := slices.DeleteFunc(vertices(0, cells(f.Level)), func(v vertex) bool { return isInside(f, v) })
		inside := components(insideOf(f), func(v, w vertex) bool { return axesApart(v, w) == 1 })
		outside := components(others, func(v, w vertex) bool { return axesApart(v, w) <= 2 })
		parts := mesh.Parts(contour.Contour(f))
		if len(parts) != inside+outside-1 {
			t.Fatalf("Contour of %s: %d parts; %d regions inside, %d outside", briefField(f), len(parts), inside, outside)
		}
		add(&more, inside > 1 && outside > 1)
	})
	if more < 10 {
		t.Errorf("%d fields with several regions inside and outside", more)
	}
}

// P8.3: the Euler number is twice that of the body, which is put together of the inside
// regions of cells, less those of their faces, and so on.
func TestP8_3Euler(t *testing.T) {
	numbers := map[int]int{}
	forFields(834, []int{0, 4, 200, 80, 20}, func(g *generator, f api.Field) {
		regions := func(low, high vertex) int {
			var inside []vertex
			for _, v := range vertices(0, 1) {
				if w := low.add(v); isBetween(w, low, high) && isInside(f, w) {
					inside = append(inside, w)
				}
			}
			return components(inside, func(v, w vertex) bool { return axesApart(v, w) == 1 })
		}
		body := 0
		n := cells(f.Level)
		for _, v := range vertices(0, n) {
			for _, extent := range vertices(0, 1) {
				high := v.add(extent)
				if !isBetween(high, vertex{}, vertex{n, n, n}) {
					continue
				}
				if axesApart(extent, vertex{})%2 == 1 {
					body += regions(v, high)
				} else {
					body -= regions(v, high)
				}
			}
		}
		got := mesh.Euler(contour.Contour(f))
		if got != 2*body {
			t.Fatalf("Contour of %s: Euler %d, want %d", briefField(f), got, 2*body)
		}
		numbers[got]++
	})
	if len(numbers) < 20 {
		t.Errorf("Euler numbers: %v", numbers)
	}
}

// mapped returns the triangles with each corner replaced.
func mapped(l []api.Tri, place func(p api.Point) api.Point) []api.Tri {
	var all []api.Tri
	for _, tri := range l {
		all = append(all, api.Tri{place(tri[0]), place(tri[1]), place(tri[2])})
	}
	return all
}

// P8.4: if the coordinates of the vertices are exchanged cyclically, those of the
// surface are.
func TestP8_4Exchanged(t *testing.T) {
	forFields(842, []int{0, 2, 150, 60, 10, 2}, func(g *generator, f api.Field) {
		l := contour.Contour(f)
		check(t, fieldOf(f.Level, func(v vertex) bool { return isInside(f, vertex{v[1], v[2], v[0]}) }), mapped(l, func(p api.Point) api.Point { return at(p.Z, p.X, p.Y) }))
		check(t, fieldOf(f.Level, func(v vertex) bool { return isInside(f, vertex{v[2], v[0], v[1]}) }), mapped(l, func(p api.Point) api.Point { return at(p.Y, p.Z, p.X) }))
	})
	kinds(2, vertex{1, 1, 1}, func(kind int, f api.Field) {
		exchanged := fieldOf(2, func(v vertex) bool { return isInside(f, vertex{v[1], v[2], v[0]}) })
		check(t, exchanged, mapped(contour.Contour(f), func(p api.Point) api.Point { return at(p.Z, p.X, p.Y) }))
	})
}

// P8.4: if a field is moved by whole cells, its surface is, also one of a level moved
// into a finer grid that has edges of half the length.
func TestP8_4Moved(t *testing.T) {
	forFields(843, []int{0, 4, 60, 30, 4}, func(g *generator, f api.Field) {
		l := contour.Contour(f)
		level, n := f.Level+1, cells(f.Level)
		by := vertex{g.below(n + 1), g.below(n + 1), g.below(n + 1)}
		moved := fieldOf(level, func(v vertex) bool {
			v = vertex{v[0] - by[0], v[1] - by[1], v[2] - by[2]}
			return isBetween(v, vertex{}, vertex{n, n, n}) && isInside(f, v)
		})
		again := fieldOf(level, func(v vertex) bool { return isBetween(v, vertex{}, vertex{n, n, n}) && isInside(f, v) })
		h := length(level)
		want := mapped(contour.Contour(again), func(p api.Point) api.Point { return at(p.X+by[0]*h, p.Y+by[1]*h, p.Z+by[2]*h) })
		check(t, moved, want)
		if len(want) != len(l) {
			t.Fatalf("Contour of %s: %d triangles; in a finer grid %d", briefField(f), len(l), len(want))
		}
	})
}

// P8.4: a vertex has an effect only on the triangles in its eight cells.
func TestP8_4OneVertex(t *testing.T) {
	effects := 0
	forFields(844, []int{0, 4, 200, 80, 20, 3}, func(g *generator, f api.Field) {
		v := g.vertex(f.Level)
		isNear := func(tri api.Tri) bool {
			c := cellOf(tri, f.Level)
			return isBetween(v, c, c.add(vertex{1, 1, 1}))
		}
		before := contour.Contour(f)
		f.In[indexOf(f.Level, v)] = !isInside(f, v)
		after := contour.Contour(f)
		if slices.Equal(before, after) {
			t.Fatalf("Contour of %s: the vertex %v has no effect", briefField(f), v)
		}
		effects += len(before)
		if !slices.Equal(slices.DeleteFunc(before, isNear), slices.DeleteFunc(after, isNear)) {
			t.Fatalf("Contour of %s: the vertex %v has an effect elsewhere", briefField(f), v)
		}
	})
	if effects < 50000 {
		t.Errorf("%d triangles", effects)
	}
}

// T9: the vertices that a field calls inside are those that the surface encloses: it
// crosses the edges of the grid whose ends differ, so that the same field comes back.
func TestT9Inside(t *testing.T) {
	forFields(891, []int{0, 2, 60, 30, 10, 3}, func(g *generator, f api.Field) {
		edges := grid.Cross(contour.Contour(f), f.Level)
		want := mixedEdges(f)
		for _, e := range edges {
			v := vertex{e.X, e.Y, e.Z}
			if _, found := want[gridEdge{v, v.plus(e.Axis, 1)}]; !found {
				t.Fatalf("Contour of %s crosses %+v", briefField(f), e)
			}
		}
		if len(edges) != len(want) {
			t.Fatalf("Contour of %s crosses %d edges, want %d", briefField(f), len(edges), len(want))
		}
		again, patches := seal.Seal(edges, f.Level)
		if len(patches) != 0 || again.Level != f.Level || !slices.Equal(again.In, f.In) {
			t.Fatalf("Seal of what the surface of %s crosses: another field, or patches: %v", briefField(f), patches)
		}
	})
}
