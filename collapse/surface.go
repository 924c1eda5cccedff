package collapse

import (
	"slices"

	"lithophane/api"
	"lithophane/mesh"
)

// surface is a list for which the conditions 1 and 4 hold, with what is needed to
// tell quickly whether the others do. The triangles have numbers, which they keep
// when they are moved; one that is gone is the zero triangle.
type surface struct {
	triangles []api.Tri
	count     int                 // of those that are not gone
	around    map[api.Point][]int // the triangles with a corner
	border    map[api.Point]bool  // the border corners, which no allowed collapse changes
	boxes     *tree
}

// newSurface returns the surface of l; false, if the first or the fourth condition
// holds for no collapse.
//
// The fourth one needs no more than that, if the three before it hold. If two
// triangles of l have the same corners, there are no others at these; u has another
// neighbour than v and one more, and so is none of them, so that they stay. And if a
// moved triangle gets the corners of another one, it meets it, which the seventh
// condition finds.
func newSurface(l []api.Tri) (*surface, bool) {
	if mesh.CheckOpen(l) != api.OK || haveTwins(l) {
		return nil, false
	}
	s := &surface{
		triangles: slices.Clone(l), count: len(l), boxes: newTree(l),
		around: map[api.Point][]int{}, border: map[api.Point]bool{},
	}
	for i, t := range l {
		for _, p := range t {
			s.around[p] = append(s.around[p], i)
		}
	}
	for _, edge := range mesh.Border(l) {
		s.border[edge[0]], s.border[edge[1]] = true, true
	}
	return s, true
}

// haveTwins reports whether two triangles have the same corners, for a list that
// has no edge in two triangles: then one of them is the other one turned round.
func haveTwins(l []api.Tri) bool {
	rotated := map[api.Tri]bool{}
	for _, t := range l {
		rotated[mesh.Rotate(t)] = true
	}
	return slices.ContainsFunc(l, func(t api.Tri) bool {
		return rotated[mesh.Rotate(api.Tri{t[0], t[2], t[1]})]
	})
}

// trianglesOf returns the triangles with these numbers.
func (s *surface) trianglesOf(numbers []int) []api.Tri {
	var all []api.Tri
	for _, i := range numbers {
		all = append(all, s.triangles[i])
	}
	return all
}

// areJoined reports whether p and q are different and corners of one triangle.
func (s *surface) areJoined(p, q api.Point) bool {
	if len(s.around[p]) > len(s.around[q]) {
		p, q = q, p
	}
	return p != q && slices.ContainsFunc(s.around[p], func(i int) bool { return hasCorner(s.triangles[i], q) })
}

// collapse moves u into v, and returns the triangles that are changed: those that
// had the corner u.
func (s *surface) collapse(u, v api.Point) []int {
	changed := s.around[u]
	delete(s.around, u)
	for _, i := range changed {
		if hasCorner(s.triangles[i], v) {
			s.remove(i)
			continue
		}
		s.triangles[i] = moved(s.triangles[i], u, v)
		s.around[v] = append(s.around[v], i)
		s.boxes.set(i, boxOf(s.triangles[i]))
	}
	return changed
}

// remove takes the triangle i away from all its corners that are still there.
func (s *surface) remove(i int) {
	for _, p := range s.triangles[i] {
		if at := slices.Index(s.around[p], i); at >= 0 {
			s.around[p] = slices.Delete(s.around[p], at, at+1)
		}
	}
	s.triangles[i] = api.Tri{}
	s.count--
	s.boxes.set(i, box{})
}

// list returns the triangles that are not gone.
func (s *surface) list() []api.Tri {
	return slices.DeleteFunc(slices.Clone(s.triangles), hasEqualCorners)
}
