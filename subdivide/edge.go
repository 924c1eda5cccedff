package subdivide

import "cmp"

// edge leads from one point to another: their numbers.
type edge struct{ from, to int }

// edgesOf returns the edges of a triangle, in its direction.
func edgesOf(t [3]int) [3]edge {
	return [3]edge{{t[0], t[1]}, {t[1], t[2]}, {t[2], t[0]}}
}

func (e edge) opposite() edge { return edge{e.to, e.from} }

// ascending returns the one of e and its opposite that leads to the greater number.
func (e edge) ascending() edge {
	if e.to < e.from {
		return e.opposite()
	}
	return e
}

func compareEdges(a, b edge) int {
	return cmp.Or(cmp.Compare(a.from, b.from), cmp.Compare(a.to, b.to))
}
