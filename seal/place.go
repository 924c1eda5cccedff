package seal

import "lithophane/api"

// place holds the coordinates of a vertex along the axes. An edge, a face and a cell
// are at the place of their least vertex.
type place [3]int

func placeOfEdge(e api.Edge) place { return place{e.X, e.Y, e.Z} }

func placeOfFace(f api.Face) place { return place{f.X, f.Y, f.Z} }

func (p place) edge(axis int) api.Edge { return api.Edge{Axis: axis, X: p[0], Y: p[1], Z: p[2]} }

func (p place) face(axis int) api.Face { return api.Face{Axis: axis, X: p[0], Y: p[1], Z: p[2]} }

// with returns the place with another coordinate along the axis.
func (p place) with(axis, coordinate int) place {
	p[axis] = coordinate
	return p
}

func (p place) before(axis int) place { return p.with(axis, p[axis]-1) }

func (p place) behind(axis int) place { return p.with(axis, p[axis]+1) }

// facesOf returns the faces with the edge, which does not lie at the border.
func facesOf(e api.Edge) [4]api.Face {
	p := placeOfEdge(e)
	u, w := (e.Axis+1)%3, (e.Axis+2)%3
	return [4]api.Face{p.face(u), p.before(w).face(u), p.face(w), p.before(u).face(w)}
}

// cellsOf returns the cells with the face, which does not lie at the border.
func cellsOf(f api.Face) [2]place {
	p := placeOfFace(f)
	return [2]place{p.before(f.Axis), p}
}

// facesOfCell returns the faces of the cell at the place.
func facesOfCell(p place) [6]api.Face {
	return [6]api.Face{p.face(0), p.behind(0).face(0), p.face(1), p.behind(1).face(1), p.face(2), p.behind(2).face(2)}
}
