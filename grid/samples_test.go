package grid_test

import (
	"fmt"
	"slices"
	"testing"

	"lithophane/api"
	"lithophane/grid"
)

const (
	most = api.MaxCoord
	half = 1 << 20 // the middle vertices of level 1 lie half a unit before it
)

func at(x, y, z int) api.Point { return api.Point{X: x, Y: y, Z: z} }

func edge(axis, x, y, z int) api.Edge { return api.Edge{Axis: axis, X: x, Y: y, Z: z} }

func levels() []int { return []int{1, 2, 3, 4, 5, 6, 7, 8} }

func cells(level int) int { return 1 << level }

func size(level int) int { return 1 << (api.CoordBits - level) }

func coordinates(p api.Point) [3]int { return [3]int{p.X, p.Y, p.Z} }

// with returns p with another coordinate along the axis.
func with(p api.Point, axis, x int) api.Point {
	c := coordinates(p)
	c[axis] = x
	return at(c[0], c[1], c[2])
}

// plus returns p moved along the axis.
func plus(p api.Point, axis, by int) api.Point { return with(p, axis, coordinates(p)[axis]+by) }

func start(e api.Edge) api.Point { return at(e.X, e.Y, e.Z) }

func end(e api.Edge) api.Point { return plus(start(e), e.Axis, 1) }

// edgesBetween returns the edges of which both ends have numbers from those of
// first to those of last, in the order of the document.
func edgesBetween(first, last api.Point) []api.Edge {
	var l []api.Edge
	for axis := range 3 {
		for z := first.Z; z <= last.Z; z++ {
			for y := first.Y; y <= last.Y; y++ {
				for x := first.X; x <= last.X; x++ {
					e := edge(axis, x, y, z)
					if q := end(e); q.X <= last.X && q.Y <= last.Y && q.Z <= last.Z {
						l = append(l, e)
					}
				}
			}
		}
	}
	return l
}

func allEdges(level int) []api.Edge {
	n := cells(level)
	return edgesBetween(at(0, 0, 0), at(n, n, n))
}

// around returns the edges near t: all others are beside the box around it.
func around(t api.Tri, level int) []api.Edge {
	first, last := at(most, most, most), at(0, 0, 0)
	for _, p := range t {
		first = at(min(first.X, p.X), min(first.Y, p.Y), min(first.Z, p.Z))
		last = at(max(last.X, p.X), max(last.Y, p.Y), max(last.Z, p.Z))
	}
	h := size(level)
	return edgesBetween(at(first.X/h, first.Y/h, first.Z/h), at(last.X/h+1, last.Y/h+1, last.Z/h+1))
}

// checkCross checks the result for a list.
func checkCross(t *testing.T, l []api.Tri, level int, want []api.Edge) {
	t.Helper()
	if got := grid.Cross(l, level); !slices.Equal(got, want) {
		t.Fatalf("Cross of %s, level %d: %s; want %s", brief(l), level, brief(got), brief(want))
	}
}

func brief(l any) string {
	text := fmt.Sprint(l)
	return text[:min(len(text), 2000)]
}

func turned(t api.Tri) api.Tri { return api.Tri{t[0], t[2], t[1]} }

// orders returns t with its corners in each order.
func orders(t api.Tri) []api.Tri {
	var l []api.Tri
	for i := range 3 {
		rotated := api.Tri{t[i], t[(i+1)%3], t[(i+2)%3]}
		l = append(l, rotated, turned(rotated))
	}
	return l
}

// generator is a sequence of numbers that is the same in every run.
type generator uint64

func (g *generator) below(n int) int {
	*g ^= *g << 13
	*g ^= *g >> 7
	*g ^= *g << 17
	return int(uint64(*g) >> 11 % uint64(n))
}

func pick[E any](g *generator, l []E) E { return l[g.below(len(l))] }

func clamp(x int) int { return min(max(x, 0), most) }

// coordinate returns one that is near to vertices, or at the end, or any one.
func (g *generator) coordinate(level int) int {
	switch g.below(6) {
	case 0:
		return pick(g, []int{0, 1, most - 1, most})
	case 1:
		return g.below(most + 1)
	}
	return clamp(g.below(cells(level)+1)*size(level) + g.below(3) - 1)
}

func (g *generator) point(level int) api.Point {
	return at(g.coordinate(level), g.coordinate(level), g.coordinate(level))
}

// slanted returns the end of a segment from p whose line, or plane with others, may
// contain vertices, as it leads equally far along several axes.
func (g *generator) slanted(p api.Point, length int) api.Point {
	steps := []int{-3, -1, -1, 0, 0, 1, 1, 3}
	for range 100 {
		q := at(p.X+length*pick(g, steps), p.Y+length*pick(g, steps), p.Z+length*pick(g, steps))
		if isInside(q) {
			return q
		}
	}
	return p
}

func isInside(p api.Point) bool {
	return clamp(p.X) == p.X && clamp(p.Y) == p.Y && clamp(p.Z) == p.Z
}

// triangle returns a triangle that is often touched by edges of the level, and seldom flat.
func (g *generator) triangle(level int) api.Tri {
	if g.below(3) == 0 {
		return api.Tri{g.point(level), g.point(level), g.point(level)}
	}
	p := g.point(level)
	length := max(1, size(level)*(1+g.below(2))/(1+g.below(3)*g.below(2)))
	q := g.slanted(p, length)
	return api.Tri{p, q, g.slanted(pick(g, []api.Point{p, q}), length)}
}

func (g *generator) triangles(level, count int) []api.Tri {
	var l []api.Tri
	for range count {
		l = append(l, g.triangle(level))
	}
	return l
}

// nearby returns a triangle that is small at the level.
func (g *generator) nearby(level int) api.Tri {
	h := size(level)
	x, y, z := g.coordinate(level), g.coordinate(level), g.coordinate(level)
	by := func() int { return pick(g, []int{-h - 1, -h, 1 - h, -1, 0, 1, h - 1, h, h + 1, g.below(2*h) - h}) }
	var t api.Tri
	for i := range t {
		t[i] = at(clamp(x+by()), clamp(y+by()), clamp(z+by()))
	}
	return t
}
