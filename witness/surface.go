package witness

import (
	"lithophane/api"
	"lithophane/mesh"
)

// edge is a directed edge.
type edge struct{ from, to api.Point }

// surface is a list of triangles, with what is needed to look at its edges quickly.
type surface struct {
	triangles []api.Tri
	border    [][2]api.Point
	isBorder  map[api.Point]bool // tells of each corner whether it belongs to the border
	third     map[edge]api.Point // the third corner of a triangle with an edge
}

// newSurface accepts any list, though most of what it returns is only meaningful
// for one in which no edge belongs to two triangles.
func newSurface(l []api.Tri) surface {
	s := surface{
		triangles: l, border: mesh.Border(l),
		isBorder: map[api.Point]bool{}, third: make(map[edge]api.Point, 3*len(l)),
	}
	for _, t := range l {
		for i, e := range edgesOf(t) {
			s.third[e] = t[(i+2)%3]
			s.isBorder[e.from] = false
		}
	}
	for _, ends := range s.border {
		s.isBorder[ends[0]], s.isBorder[ends[1]] = true, true
	}
	return s
}

func edgesOf(t api.Tri) [3]edge {
	return [3]edge{{t[0], t[1]}, {t[1], t[2]}, {t[2], t[0]}}
}

func hasEqualCorners(t api.Tri) bool { return t[0] == t[1] || t[1] == t[2] || t[2] == t[0] }

func (s surface) hasCorner(p api.Point) bool {
	_, found := s.isBorder[p]
	return found
}

// joins reports whether the ends of an edge are corners of one triangle.
func (s surface) joins(e edge) bool {
	_, forth := s.third[e]
	_, back := s.third[edge{e.to, e.from}]
	return forth || back
}

// endOfFan returns the corner with which the fan ends that begins with an edge of
// the border. It ends, as no triangle has the opposite edge, with which one would
// lead back to the beginning.
func (s surface) endOfFan(start edge) api.Point {
	end := start.to
	for {
		next, found := s.third[edge{start.from, end}]
		if !found {
			return end
		}
		end = next
	}
}
