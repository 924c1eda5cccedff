package collapse

import (
	"lithophane/api"
	"lithophane/exact"
)

// meet is exact.Meet, which costs more: most triangles that are near to each other
// are told apart before.
func meet(s, t api.Tri) bool {
	switch common := commonCorners(s, t); {
	case common == 0 && (edgeDivides(s, t) || edgeDivides(t, s)):
		return false
	case common == 1 && !reaches(s, t) && !reaches(t, s):
		return exact.Flat(s) || exact.Flat(t)
	}
	return exact.Meet(s, t)
}

// commonCorners returns the number of corners of s that are corners of t.
func commonCorners(s, t api.Tri) int {
	count := 0
	for _, p := range s {
		if hasCorner(t, p) {
			count++
		}
	}
	return count
}

// edgeDivides reports whether t lies beyond an edge of s: beyond the plane through
// the edge that is at a right angle to s.
func edgeDivides(s, t api.Tri) bool {
	for _, edge := range edgesOf(s) {
		isBeyond := func(p api.Point) bool { return exact.Facing(s, api.Tri{edge[0], edge[1], p}) < 0 }
		if isBeyond(t[0]) && isBeyond(t[1]) && isBeyond(t[2]) {
			return true
		}
	}
	return false
}

// reaches reports whether the box around the corners of s that are not corners of
// t touches the box of t.
func reaches(s, t api.Tri) bool {
	var others box
	for _, p := range s {
		if !hasCorner(t, p) {
			others = others.with(boxOf(api.Tri{p, p, p}))
		}
	}
	return others.touches(boxOf(t))
}
