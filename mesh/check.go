package mesh

import (
	"slices"

	"lithophane/api"
)

// Check returns the first error of a list that is not closed, or OK.
func Check(l []api.Tri) api.Errno { return check(l, true) }

// CheckOpen returns the first error of a list that may have a border, or OK.
func CheckOpen(l []api.Tri) api.Errno { return check(l, false) }

func check(l []api.Tri, mustBeClosed bool) api.Errno {
	if slices.ContainsFunc(l, hasEqualCorners) {
		return api.ErrCorner
	}
	third := thirdCorners(l)
	if len(third) < 3*len(l) { // an edge that occurs again adds nothing
		return api.ErrEdge
	}
	border := third.border()
	switch {
	case mustBeClosed && len(border) > 0:
		return api.ErrOpen
	case third.havePinch(border):
		return api.ErrPinch
	}
	return api.OK
}

func hasEqualCorners(t api.Tri) bool { return t[0] == t[1] || t[1] == t[2] || t[2] == t[0] }

// havePinch reports whether at some corner there are a ring and a further triangle,
// for triangles without equal corners, and without an edge in two of them. Each
// triangle at a corner then follows at most one, and belongs either to one ring, or
// to a fan, which begins with an edge of the border. So there is a pinch exactly if
// triangles are left over when all fans at a corner or, where there is none, one
// ring have been counted off.
func (third thirds) havePinch(border set[edge]) bool {
	left, counted := map[api.Point]int{}, set[api.Point]{}
	for e := range third {
		left[e.from]++
	}
	for e := range border {
		counted.add(e.from)
		left[e.from] -= third.around(e)
	}
	for e := range third {
		if counted.add(e.from) {
			left[e.from] -= third.around(e)
		}
	}
	for _, triangles := range left {
		if triangles > 0 {
			return true
		}
	}
	return false
}

// around returns the number of triangles at the first corner of an edge, from the
// edge's triangle on, each of which follows the one before: up to the last one of
// a fan, or once around a ring.
func (third thirds) around(start edge) int {
	triangles := 0
	for e := start; triangles == 0 || e != start; triangles++ {
		to, found := third[e]
		if !found {
			break
		}
		e.to = to // the triangle that follows begins with the edge with which this one ends
	}
	return triangles
}
