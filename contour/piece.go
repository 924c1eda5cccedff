package contour

import "lithophane/api"

// pieces makes the triangles in cells. There are few kinds of cells, and cells of one
// kind differ by their places only, so each kind is made once, at the place 0, 0, 0.
type pieces struct {
	edge int // the length of an edge
	of   [1 << 8][]api.Tri
}

// appendPiece appends the triangles in the cell, which is mixed.
func (p *pieces) appendPiece(l []api.Tri, at place, k kind) []api.Tri {
	if p.of[k] == nil {
		p.of[k] = p.pieceOf(k)
	}
	x, y, z := at[0]*p.edge, at[1]*p.edge, at[2]*p.edge
	for _, t := range p.of[k] {
		for i, corner := range t {
			t[i] = api.Point{X: corner.X + x, Y: corner.Y + y, Z: corner.Z + z}
		}
		l = append(l, t)
	}
	return l
}

// pieceOf returns the triangles in the cell of the kind at the place 0, 0, 0.
func (p *pieces) pieceOf(k kind) []api.Tri {
	var l []api.Tri
	for cycle := range k.cycles() {
		var corners []api.Point
		for _, c := range cycle {
			corners = append(corners, p.pointOf(c))
		}
		l = append(l, span(corners)...)
	}
	return l
}

func (p *pieces) pointOf(c crossing) api.Point {
	half, at := p.edge/2, c.halves()
	return api.Point{X: at[0] * half, Y: at[1] * half, Z: at[2] * half}
}

// span returns the triangles of a cycle.
func span(cycle []api.Point) []api.Tri {
	if len(cycle) == 3 {
		return []api.Tri{api.Tri(cycle)}
	}
	var l []api.Tri
	for i, c := range cycle {
		l = append(l, api.Tri{c, cycle[(i+1)%len(cycle)], centreOf(cycle)})
	}
	return l
}

// centreOf returns the centre of a cycle. No coordinate is negative, so that all of
// them are rounded down.
func centreOf(cycle []api.Point) api.Point {
	var sum api.Point
	for _, c := range cycle {
		sum = api.Point{X: sum.X + c.X, Y: sum.Y + c.Y, Z: sum.Z + c.Z}
	}
	count := len(cycle)
	return api.Point{X: sum.X / count, Y: sum.Y / count, Z: sum.Z / count}
}
