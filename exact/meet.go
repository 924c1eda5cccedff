package exact

import "lithophane/api"

// Meet reports whether s and t have a common point beside their common corner
// or edge; if one of them is flat, whether they have any common point.
func Meet(s, t api.Tri) bool {
	common := commonCorners(s, t)
	switch {
	case common == 0:
		return haveCommonPoint(s, t)
	case common == 3 || Flat(s) || Flat(t): // also flat triangles contain their common corner
		return true
	}
	s, t = commonFirst(s, t), commonFirst(t, s)
	if common == 1 {
		return Touch(s[1], s[2], t) || Touch(t[1], t[2], s)
	}
	return Orient(s[0], s[1], s[2], t[2]) == 0 && sameSide(s[0], s[1], s[2], t[2])
}

// commonCorners returns the number of corners of s that are corners of t.
func commonCorners(s, t api.Tri) int {
	count := 0
	for _, p := range s {
		if isCorner(t, p) {
			count++
		}
	}
	return count
}

func isCorner(t api.Tri, p api.Point) bool { return p == t[0] || p == t[1] || p == t[2] }

// commonFirst turns s, of which one or two corners are corners of t, such that
// these come before the others.
func commonFirst(s, t api.Tri) api.Tri {
	for turned := range rotations(s) {
		if isCorner(t, turned[0]) && !isCorner(t, turned[2]) {
			return turned
		}
	}
	return s
}

// haveCommonPoint reports whether the closed triangles have a common point:
// then an edge of one of them has one with the other.
func haveCommonPoint(s, t api.Tri) bool {
	return !boxesApart(s, t) && (edgeTouches(s, t) || edgeTouches(t, s))
}

// edgeTouches reports whether an edge of s has a common point with t.
func edgeTouches(s, t api.Tri) bool {
	for edge := range rotations(s) {
		if Touch(edge[0], edge[1], t) {
			return true
		}
	}
	return false
}

// boxesApart reports whether the least boxes around s and t have no common
// point, which settles most cases at little cost.
func boxesApart(s, t api.Tri) bool {
	for _, field := range fields() {
		leastOfS, greatestOfS := extent(s, field)
		leastOfT, greatestOfT := extent(t, field)
		if greatestOfS < leastOfT || greatestOfT < leastOfS {
			return true
		}
	}
	return false
}

// extent returns the least and the greatest value of a field of the corners.
func extent(t api.Tri, field func(point) int) (least, greatest int) {
	a, b, c := field(point(t[0])), field(point(t[1])), field(point(t[2]))
	return min(a, b, c), max(a, b, c)
}
