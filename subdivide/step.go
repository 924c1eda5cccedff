package subdivide

import (
	"maps"
	"slices"

	"lithophane/api"
)

// step makes the shape before it finer.
type step struct {
	shape
	edges  []edge        // ascending ones, in order: each gets a new point
	thirds map[edge]int  // the third corner of the triangle with a directed edge
	ends   map[int][]int // of the creases at a point: their other ends
}

// stepFrom returns the step from the shape. If two triangles have the same corners,
// their new edges between new points belong to both, and so do those of later steps:
// the triangles of one are then the others, turned round. As the rule is the same for
// both, it does not matter from which of them the third corners are.
func stepFrom(s shape) step {
	thirds := make(map[edge]int, 3*len(s.tris))
	for _, t := range s.tris {
		for i, e := range edgesOf(t) {
			thirds[e] = t[(i+2)%3]
		}
	}
	edges := slices.DeleteFunc(slices.Collect(maps.Keys(thirds)), func(e edge) bool { return e != e.ascending() })
	slices.SortFunc(edges, compareEdges)
	ends := map[int][]int{}
	for _, e := range edges {
		if s.creases[e] {
			ends[e.from] = append(ends[e.from], e.to)
			ends[e.to] = append(ends[e.to], e.from)
		}
	}
	return step{shape: s, edges: edges, thirds: thirds, ends: ends}
}

// finer returns the shape behind the step.
func (s step) finer() shape {
	numbers := make(map[edge]int, len(s.edges))
	for i, e := range s.edges {
		numbers[e] = s.points + i
	}
	next := shape{points: s.points + len(s.edges), creases: map[edge]bool{}, corners: s.corners}
	next.tris = make([][3]int, 0, 4*len(s.tris))
	for _, t := range s.tris {
		var middles [3]int
		for i, e := range edgesOf(t) {
			middles[i] = numbers[e.ascending()]
		}
		a, b, c := t[0], t[1], t[2]
		x, y, z := middles[0], middles[1], middles[2]
		next.tris = append(next.tris, [3]int{a, x, z}, [3]int{x, b, y}, [3]int{z, y, c}, [3]int{x, y, z})
	}
	for e := range s.creases {
		middle := numbers[e] // the greatest of the three numbers
		next.creases[edge{e.from, middle}] = true
		next.creases[edge{e.to, middle}] = true
	}
	return next
}

// middles returns a function that tells for the step's edges where their new points
// are without details, if the points before the step are the first ones of points.
func (s step) middles(points []api.Point) func(edge) api.Point {
	return func(e edge) api.Point {
		var sum api.Point
		add := func(factor int, numbers ...int) {
			for _, number := range numbers {
				sum = plus(sum, times(points[number], factor))
			}
		}
		a, b := e.from, e.to
		if s.creases[e] {
			add(9, a, b)
			add(-1, s.beyond(a, b), s.beyond(b, a))
		} else {
			c, d := s.thirds[e], s.thirds[e.opposite()]
			add(8, a, b)
			add(2, c, d)
			add(-1, s.thirds[edge{c, b}], s.thirds[edge{a, c}], s.thirds[edge{d, a}], s.thirds[edge{b, d}])
		}
		return over(sum, 16)
	}
}

// beyond returns where the crease from b to a goes on behind a: the other end of the
// other crease there, or a itself, if it ends or is broken there.
func (s step) beyond(a, b int) int {
	ends := s.ends[a]
	switch {
	case s.corners[a] || len(ends) != 2:
		return a
	case ends[0] == b:
		return ends[1]
	}
	return ends[0]
}

// details returns by how much the step's new points differ from where they are without
// details, in units; points are those before the step, and the new ones behind them.
func (s step) details(points []api.Point, unit int) []api.Point {
	middle := s.middles(points)
	list := make([]api.Point, len(s.edges))
	for i, e := range s.edges {
		list[i] = over(minus(points[s.points+i], middle(e)), unit)
	}
	return list
}
