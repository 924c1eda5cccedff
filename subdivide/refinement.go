package subdivide

import (
	"slices"

	"lithophane/api"
)

// shape is a control mesh without the places of its points.
type shape struct {
	points  int // their number
	tris    [][3]int
	creases map[edge]bool // ascending ones
	corners map[int]bool
}

// shapeOf returns the shape of c.
func shapeOf(c api.Control) shape {
	s := shape{points: len(c.Points), tris: slices.Clone(c.Tris), creases: map[edge]bool{}, corners: map[int]bool{}}
	for _, crease := range c.Creases {
		s.creases[creaseOf(crease)] = true
	}
	for _, number := range c.Corners {
		s.corners[number] = true
	}
	return s
}

// creaseOf returns a crease in the direction that all creases have in a shape.
func creaseOf(crease [2]int) edge { return edge{crease[0], crease[1]}.ascending() }

// refinement holds steps, and the shape behind the last one.
type refinement struct {
	steps []step
	shape
}

func refine(s shape, steps int) refinement {
	r := refinement{shape: s}
	for range steps {
		next := stepFrom(r.shape)
		r.steps = append(r.steps, next)
		r.shape = next.finer()
	}
	return r
}

// hasTooMany reports whether a step has more details than it adds points.
func (r refinement) hasTooMany(details [][]api.Point) bool {
	for k, list := range details {
		if len(list) > len(r.steps[k].edges) {
			return true
		}
	}
	return false
}

// areOfIntegers reports whether the points, which are as many as there are behind the
// last step, come from points and details that are integers. A step puts new points at
// sixteenths of those before it, and adds details times a unit; so if those before it
// are multiples of 16 units, details are integers exactly if new points are multiples of
// the unit.
func (r refinement) areOfIntegers(points []api.Point) bool {
	for k, s := range r.steps {
		if !areMultiples(points[:s.points], power16(len(r.steps)-k)) {
			return false
		}
	}
	return true
}

// power16 returns 16^n.
func power16(n int) int { return 1 << (4 * n) }

// detailUnit returns by what the details of step k are multiplied.
func detailUnit(c api.Control, k int) int { return power16(c.Steps - 1 - k) }

// detail returns element i of the details of step k.
func detail(c api.Control, k, i int) api.Point {
	if k < len(c.Details) && i < len(c.Details[k]) {
		return c.Details[k][i]
	}
	return api.Point{}
}
