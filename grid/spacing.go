package grid

import "lithophane/api"

// spacing is the distance of neighbouring vertices. All coordinates are doubled
// before they are compared, so that those of the vertices are integers, too, as
// long as these are not moved.
type spacing int

func spacingOf(level int) spacing { return 1 << (api.CoordBits - level) }

// doubled returns the doubled coordinate of the vertices with the number.
func (h spacing) doubled(number int) int { return 2*number*int(h) - 1 }

// before returns the number of the last vertices before the coordinate.
func (h spacing) before(coordinate int) int { return coordinate / int(h) }

// vertex returns the vertex with the number on the line, doubled.
func (h spacing) vertex(number int, line spot, axis int) api.Point {
	return join(h.doubled(number), h.place(line), axis)
}

// place returns the doubled place of the line.
func (h spacing) place(line spot) spot { return spot{h.doubled(line.u), h.doubled(line.w)} }

// box returns, for each axis, the numbers of the last vertices before the
// triangle, and of the last ones before its end.
func (h spacing) box(t api.Tri) (first, last api.Point) {
	a, b, c := t[0], t[1], t[2]
	first = api.Point{X: h.before(min(a.X, b.X, c.X)), Y: h.before(min(a.Y, b.Y, c.Y)), Z: h.before(min(a.Z, b.Z, c.Z))}
	last = api.Point{X: h.before(max(a.X, b.X, c.X)), Y: h.before(max(a.Y, b.Y, c.Y)), Z: h.before(max(a.Z, b.Z, c.Z))}
	return first, last
}

func doubledTriangle(t api.Tri) api.Tri {
	for i, p := range t {
		t[i] = api.Point{X: 2 * p.X, Y: 2 * p.Y, Z: 2 * p.Z}
	}
	return t
}
