package grid

import (
	"cmp"

	"lithophane/api"
)

// spot is a point as it is seen along an axis: its coordinates along the two other
// axes, that of the lesser axis first. A line of the grid along the axis is a spot,
// too, made of the numbers of its vertices along the other axes.
type spot struct{ u, w int }

// split returns the coordinate along the axis, and what is seen along it.
func split(p api.Point, axis int) (int, spot) {
	switch axis {
	case 0:
		return p.X, spot{p.Y, p.Z}
	case 1:
		return p.Y, spot{p.X, p.Z}
	}
	return p.Z, spot{p.X, p.Y}
}

// join returns the point that split divides.
func join(along int, s spot, axis int) api.Point {
	switch axis {
	case 0:
		return api.Point{X: along, Y: s.u, Z: s.w}
	case 1:
		return api.Point{X: s.u, Y: along, Z: s.w}
	}
	return api.Point{X: s.u, Y: s.w, Z: along}
}

// splitEdge returns the number of e on its line, and the line.
func splitEdge(e api.Edge) (int, spot) {
	return split(api.Point{X: e.X, Y: e.Y, Z: e.Z}, e.Axis)
}

// joinEdge returns the edge with the number on the line.
func joinEdge(number int, line spot, axis int) api.Edge {
	p := join(number, line, axis)
	return api.Edge{Axis: axis, X: p.X, Y: p.Y, Z: p.Z}
}

// turn returns the sign of the turn from r over s to p. If they lie on a line, the
// step by which p is moved decides: it is much longer along u than along w.
func turn(r, s, p spot) int {
	du, dw := s.u-r.u, s.w-r.w
	pu, pw := p.u-r.u, p.w-r.w
	return cmp.Or(cmp.Compare(du*pw, dw*pu), cmp.Compare(0, dw), cmp.Compare(du, 0))
}

// counterClockwise returns the corners in this order, if they have an area.
func counterClockwise(corners [3]spot) [3]spot {
	a, b, c := corners[0], corners[1], corners[2]
	if (b.u-a.u)*(c.w-a.w) < (b.w-a.w)*(c.u-a.u) {
		return [3]spot{a, c, b}
	}
	return corners
}
