package seal_test

import (
	"slices"
	"testing"

	"lithophane/api"
)

// checkComponents checks the numbers of faces of the components, in the order of
// their least faces, and all results against the reference.
func checkComponents(t *testing.T, l []api.Edge, level int, want ...int) refSealed {
	t.Helper()
	s := check(t, l, level)
	var got []int
	for _, c := range s.components {
		got = append(got, len(c))
	}
	if !slices.Equal(got, want) {
		t.Fatalf("Seal of %s, level %d: components of %v faces; want %v", brief(l), level, got, want)
	}
	return s
}

// P7.2: faces of one cell are connected: those around two edges of a cell, however
// they lie.
func TestP7_2EdgesOfOneCell(t *testing.T) {
	l := edgesAmong(cornersOfCell(vertex{1, 2, 1}))
	for i, e := range l {
		for _, f := range l[:i] {
			s := check(t, []api.Edge{e, f}, 2)
			if len(s.patches) != 1 {
				t.Errorf("Seal of %+v, %+v: %+v", e, f, s.patches)
			}
		}
	}
}

// P7.2: all faces of a cell are odd, by three edges of it that have no vertex in common.
func TestP7_2AroundCell(t *testing.T) {
	s := checkComponents(t, []api.Edge{edge(0, 1, 1, 1), edge(1, 1, 1, 2), edge(2, 2, 2, 1)}, 2, 12)
	for _, f := range s.grid.facesOf[vertex{1, 1, 1}] {
		if !slices.Contains(s.odd, f) {
			t.Errorf("a face that is not odd: %+v", f)
		}
	}
	checkComponents(t, edgesAmong(cornersOfCell(vertex{1, 1, 1})), 2, 24) // those around it
}

// inCommon reports whether faces of two components have an edge, or a vertex, in common.
func (r *refGrid) inCommon(c, d []api.Face) (edges, vertices bool) {
	for _, f := range c {
		for _, g := range d {
			for _, e := range r.edgesOf[f] {
				edges = edges || slices.Contains(r.edgesOf[g], e)
			}
			for _, v := range corners(f) {
				vertices = vertices || slices.Contains(corners(g), v)
			}
		}
	}
	return edges, vertices
}

// P7.2: faces that have only an edge or a vertex in common are not connected.
func TestP7_2Apart(t *testing.T) {
	for _, c := range []struct {
		l               []api.Edge
		edges, vertices bool
	}{
		{[]api.Edge{edge(2, 1, 1, 1), edge(2, 3, 1, 1)}, true, true}, {[]api.Edge{edge(2, 1, 1, 1), edge(2, 1, 3, 1)}, true, true},
		{[]api.Edge{edge(0, 2, 1, 1), edge(0, 2, 1, 3)}, true, true}, {[]api.Edge{edge(1, 1, 2, 3), edge(1, 3, 2, 3)}, true, true},
		{[]api.Edge{edge(2, 1, 1, 1), edge(2, 3, 1, 2)}, false, true}, {[]api.Edge{edge(0, 1, 1, 1), edge(0, 2, 3, 1)}, false, true},
		{[]api.Edge{edge(2, 1, 1, 1), edge(2, 1, 1, 2)}, true, true}, {[]api.Edge{edge(1, 1, 0, 1), edge(1, 1, 1, 1)}, true, true},
		{[]api.Edge{edge(2, 1, 1, 0), edge(2, 1, 1, 2)}, false, false}, {[]api.Edge{edge(2, 1, 1, 1), edge(2, 3, 3, 1)}, false, false},
	} {
		s := checkComponents(t, c.l, 2, 4, 4)
		if edges, vertices := s.grid.inCommon(s.components[0], s.components[1]); edges != c.edges || vertices != c.vertices {
			t.Errorf("%+v: an edge in common %v, a vertex %v", c.l, edges, vertices)
		}
	}
}

// P7.2: walls at neighbouring places are not connected; walls of different axes are,
// if they have a cell in common.
func TestP7_2Walls(t *testing.T) {
	checkComponents(t, append(wall(0, 3, 2, 5), wall(0, 4, 2, 5)...), 3, 16, 16)
	checkComponents(t, append(wall(0, 3, 2, 5), wall(1, 1, 2, 5)...), 3, 32)
	checkComponents(t, append(wall(2, 3, 1, 7), wall(2, 3, 3, 5)...), 3, 28, 12)
	checkComponents(t, append(wall(2, 3, 1, 7), wall(2, 3, 2, 6)...), 3, 28, 20)
}

// snake returns a chain of parallel edges that turns from side to side: each has a
// cell in common with the next one, and others only near by.
func snake(axis, coordinate, length, rows int) []api.Edge {
	var l []api.Edge
	add := func(x, y int) {
		v := vertex{}.plus(axis, coordinate).plus((axis+1)%3, x).plus((axis+2)%3, y)
		l = append(l, edge(axis, v[0], v[1], v[2]))
	}
	for row := range rows {
		for i := range length {
			x := 1 + i
			if row%2 == 1 {
				x = length - i
			}
			add(x, 1+2*row)
		}
		if row+1 < rows {
			add(1+(length-1)*(1-row%2), 2+2*row)
		}
	}
	return l
}

// P7.2: a component that is connected by a long chain alone: without one of the edges
// there are two components.
func TestP7_2Chain(t *testing.T) {
	for axis := range 3 {
		l := snake(axis, 7, 15, 8)
		if s := check(t, l, 4); len(s.patches) != 1 || s.patches[0].Edges != len(l) {
			t.Errorf("Seal of a chain of %d edges: %+v", len(l), s.patches)
		}
		for _, i := range []int{1, 40, len(l) - 2} {
			if s := check(t, slices.Delete(slices.Clone(l), i, i+1), 4); len(s.patches) != 2 {
				t.Errorf("Seal of a chain without the edge %d: %+v", i, s.patches)
			}
		}
	}
}

// P7.2: a chain through the grid with edges along all axes, of which neighbours have
// no vertex in common, but a cell.
func TestP7_2SlantedChain(t *testing.T) {
	var l []api.Edge
	for v := (vertex{1, 1, 1}); max(v[0], v[1], v[2]) < 15; {
		axis := len(l) % 3
		l = append(l, edge(axis, v[0], v[1], v[2]))
		v = v.plus(0, 1).plus(1, 1).plus(2, 1).plus((axis+1)%3, -1) // the next axis
	}
	s := check(t, l, 4)
	if len(s.patches) != 1 || len(s.odd) < 60 {
		t.Errorf("Seal of %+v: %+v", l, s.patches)
	}
	for i := 1; i < len(l)-1; i++ {
		if s = check(t, slices.Delete(slices.Clone(l), i, i+1), 4); len(s.patches) != 2 {
			t.Errorf("Seal of %+v without the edge %d: %+v", l, i, s.patches)
		}
	}
}

// P7.2: of many lists: of many components, of large ones, and of those with faces of
// all three axes.
func TestP7_2ComponentsOfMany(t *testing.T) {
	var several, large, allAxes int
	g := generator(724)
	for _, level := range []int{2, 3} {
		for range 300 {
			l := slices.Concat(g.clump(level, g.below(20)), g.scattered(level, 12), g.sheet(level))
			s := check(t, l, level)
			add(&several, len(s.components) > 3)
			for _, c := range s.components {
				axes := [3]int{}
				for _, f := range c {
					axes[f.Axis]++
				}
				add(&large, len(c) > 20)
				add(&allAxes, slices.Min(axes[:]) > 0)
			}
		}
	}
	if min(several, large, allAxes) < 50 {
		t.Errorf("several components %d, large ones %d, with all axes %d", several, large, allAxes)
	}
}
