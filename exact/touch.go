package exact

import "lithophane/api"

// Touch reports whether the segment p q and the closed triangle t have a common point.
func Touch(p, q api.Point, t api.Tri) bool {
	sideOfP, sideOfQ := Orient(t[0], t[1], t[2], p), Orient(t[0], t[1], t[2], q)
	switch {
	case sideOfP == 0 && sideOfQ == 0:
		return touchInPlane(p, q, t)
	case sideOfP == sideOfQ:
		return false
	}
	return linePierces(p, q, t)
}

// touchInPlane is Touch for a segment in the plane of t, or any segment if t is
// flat, and so is nothing but its edges.
func touchInPlane(p, q api.Point, t api.Tri) bool {
	for edge := range rotations(t) {
		if segmentsMeet(p, q, edge[0], edge[1]) {
			return true
		}
	}
	return !Flat(t) && covers(t, p)
}

// covers reports whether p, a point in the plane of t, belongs to t, which is not flat.
func covers(t api.Tri, p api.Point) bool {
	for edge := range rotations(t) {
		if Facing(t, api.Tri{edge[0], edge[1], p}) < 0 {
			return false
		}
	}
	return true
}

// linePierces reports whether the line through p and q, which is not parallel
// to the plane of t, passes through t: it passes all edges on the same side, or
// meets them.
func linePierces(p, q api.Point, t api.Tri) bool {
	var left, right bool
	for edge := range rotations(t) {
		side := Orient(p, q, edge[0], edge[1])
		left = left || side > 0
		right = right || side < 0
	}
	return !left || !right
}

// segmentsMeet reports whether the segments p q and r s have a common point.
func segmentsMeet(p, q, r, s api.Point) bool {
	switch {
	case Orient(p, q, r, s) != 0:
		return false
	case Flat(api.Tri{p, q, r}) && Flat(api.Tri{p, q, s}) && Flat(api.Tri{r, s, p}) && Flat(api.Tri{r, s, q}):
		return segmentsOverlap(p, q, r, s)
	}
	return !sameSide(p, q, r, s) && !sameSide(r, s, p, q)
}

// segmentsOverlap is segmentsMeet for points on one line, along which they are
// ordered by Less.
func segmentsOverlap(p, q, r, s api.Point) bool {
	if Less(q, p) {
		p, q = q, p
	}
	if Less(s, r) {
		r, s = s, r
	}
	return !Less(q, r) && !Less(s, p)
}

// sameSide reports whether r and s lie strictly on the same side of the line
// through p and q, for points in one plane.
func sameSide(p, q, r, s api.Point) bool {
	return Facing(api.Tri{p, q, r}, api.Tri{p, q, s}) > 0
}
