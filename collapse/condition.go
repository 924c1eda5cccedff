package collapse

import (
	"lithophane/api"
	"lithophane/exact"
)

// condition reports whether it holds for moving u into v. If it does not, that
// stays so until one of the triangles with the returned numbers is changed by an
// allowed collapse, as long as both u and v are there.
type condition func(u, v api.Point) (holds bool, until []int)

// allows reports whether the other conditions hold, and the first one that does not
// says until when.
func (s *surface) allows(u, v api.Point) (bool, []int) {
	for _, holdsFor := range []condition{s.isFree, s.haveTwoCommonNeighbours, s.joinsNoBorder, s.turnsNothing, s.meetsNothing} {
		if holds, until := holdsFor(u, v); !holds {
			return false, until
		}
	}
	return true, nil
}

// isFree is the second condition: u and v are joined, and u is not a border corner,
// so that there is a ring around it.
func (s *surface) isFree(u, v api.Point) (bool, []int) {
	return !s.border[u] && s.areJoined(u, v), nil
}

// haveTwoCommonNeighbours is the third condition. Two of the common neighbours are
// those on both sides of the edge from u to v. Another one stays one, as corners that
// are joined stay so, until it is gone or is on one side of the edge; either changes a
// triangle at u.
func (s *surface) haveTwoCommonNeighbours(u, v api.Point) (bool, []int) {
	common := 0
	for _, i := range s.around[u] {
		for _, edge := range edgesOf(s.triangles[i]) {
			if edge[0] == u && s.areJoined(edge[1], v) { // in a ring, each neighbour follows u once
				common++
			}
		}
	}
	return common == 2, s.around[u]
}

// joinsNoBorder is the fifth condition. Only v is joined with more corners than
// before. Border corners that are not joined never will be, as this condition holds
// for all collapses that are made, so that none of these changes what it says here.
func (s *surface) joinsNoBorder(u, v api.Point) (bool, []int) {
	if !s.border[v] {
		return true, nil
	}
	for _, i := range s.around[u] {
		for _, p := range s.triangles[i] {
			if s.border[p] && p != v && !s.areJoined(p, v) {
				return false, nil
			}
		}
	}
	return true, nil
}

// turnsNothing is the sixth condition. Flat triangles, which have no normal, face
// no other triangle.
func (s *surface) turnsNothing(u, v api.Point) (bool, []int) {
	for _, i := range s.around[u] {
		t := s.triangles[i]
		if !hasCorner(t, v) && exact.Facing(t, moved(t, u, v)) != 1 {
			return false, []int{i}
		}
	}
	return true, nil
}

// meetsNothing is the seventh condition: the moved triangles meet neither each
// other nor the ones without u.
func (s *surface) meetsNothing(u, v api.Point) (bool, []int) {
	var before []int
	for _, i := range s.around[u] {
		if hasCorner(s.triangles[i], v) {
			continue
		}
		t := moved(s.triangles[i], u, v)
		for _, j := range before {
			if meet(t, moved(s.triangles[j], u, v)) {
				return false, []int{i, j}
			}
		}
		for j := range s.boxes.near(boxOf(t)) {
			if !hasCorner(s.triangles[j], u) && meet(t, s.triangles[j]) {
				return false, []int{i, j}
			}
		}
		before = append(before, i)
	}
	return true, nil
}
