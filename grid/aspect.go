package grid

import (
	"sort"

	"lithophane/api"
	"lithophane/exact"
)

// aspect is an admitted triangle as it is seen along an axis.
type aspect struct {
	spacing  spacing
	axis     int
	triangle api.Tri // doubled
	outline  [3]spot // doubled, and counter-clockwise
	// The triangle lies on the edges with the numbers from nearest to farthest, and
	// among the lines behind first, up to last.
	nearest, farthest int
	first, last       spot
}

func aspectOf(t api.Tri, axis int, h spacing) aspect {
	a := aspect{spacing: h, axis: axis, triangle: doubledTriangle(t)}
	for i, corner := range a.triangle {
		_, a.outline[i] = split(corner, axis)
	}
	a.outline = counterClockwise(a.outline)
	first, last := h.box(t)
	a.nearest, a.first = split(first, axis)
	a.farthest, a.last = split(last, axis)
	return a
}

// side returns the side of the triangle on which the vertex with the number on the line lies.
func (a *aspect) side(number int, line spot) int {
	return exact.Side(a.triangle, a.spacing.vertex(number, line, a.axis))
}

// isLeft reports whether the line passes on the left of the side of the outline that
// begins at the corner.
func (a *aspect) isLeft(corner int, line spot) bool {
	return turn(a.outline[corner], a.outline[(corner+1)%3], a.spacing.place(line)) > 0
}

// crosses reports whether the triangle crosses the edge with the number on the line.
func (a *aspect) crosses(number int, line spot) bool {
	return a.isLeft(0, line) && a.isLeft(1, line) && a.isLeft(2, line) && a.side(number, line) != a.side(number+1, line)
}

// visitCrossed visits the edges along the axis that the triangle crosses.
func (a *aspect) visitCrossed(visit func(api.Edge)) {
	for row := a.first.w + 1; row <= a.last.w; row++ {
		begin, end := a.columns(row)
		for column := begin; column < end; column++ {
			line := spot{column, row}
			visit(joinEdge(a.number(line), line, a.axis))
		}
	}
}

// columns returns the first and the end of the lines of the row that pass through
// the triangle: those on the left of all sides of its outline. If this has no area,
// there are none.
func (a *aspect) columns(row int) (begin, end int) {
	begin, end = a.first.u+1, a.last.u+1
	for corner, from := range a.outline {
		to := a.outline[(corner+1)%3]
		isLeft := func(i int) bool { return a.isLeft(corner, spot{begin + i, row}) }
		if to.w < from.w { // downwards: the last columns are on the left
			begin += sort.Search(end-begin, isLeft)
		} else { // upwards: the first ones are; or all are, or none
			end = begin + sort.Search(end-begin, func(i int) bool { return !isLeft(i) })
		}
	}
	return begin, end
}

// number returns the number of the edge that is crossed on a line through the triangle.
func (a *aspect) number(line spot) int {
	near := a.side(a.nearest, line)
	isFar := func(i int) bool { return a.side(a.nearest+1+i, line) != near }
	return a.nearest + sort.Search(a.farthest-a.nearest, isFar)
}
