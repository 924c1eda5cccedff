package mesh

import (
	"cmp"
	"slices"

	"lithophane/api"
	"lithophane/exact"
)

// edge is a directed edge.
type edge struct{ from, to api.Point }

// edgesOf returns the directed edges of t.
func edgesOf(t api.Tri) [3]edge {
	return [3]edge{{t[0], t[1]}, {t[1], t[2]}, {t[2], t[0]}}
}

func (e edge) opposite() edge { return edge{e.to, e.from} }

// ascending returns the one of e and its opposite that does not lead to a lesser corner.
func (e edge) ascending() edge {
	if exact.Less(e.to, e.from) {
		return e.opposite()
	}
	return e
}

// thirds tells for each directed edge of a list the third corner of a triangle with it.
type thirds map[edge]api.Point

func thirdCorners(l []api.Tri) thirds {
	third := make(thirds, 3*len(l))
	for _, t := range l {
		for i, e := range edgesOf(t) {
			third[e] = t[(i+2)%3]
		}
	}
	return third
}

// border returns the edges whose opposite ones do not occur.
func (third thirds) border() set[edge] {
	border := set[edge]{}
	for e := range third {
		if _, found := third[e.opposite()]; !found {
			border.add(e)
		}
	}
	return border
}

func comparePoints(a, b api.Point) int {
	switch {
	case a == b:
		return 0
	case exact.Less(a, b):
		return -1
	}
	return 1
}

func compareEdges(a, b edge) int {
	return cmp.Or(comparePoints(a.from, b.from), comparePoints(a.to, b.to))
}

func compareTris(s, t api.Tri) int {
	return slices.CompareFunc(s[:], t[:], comparePoints)
}
