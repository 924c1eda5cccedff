package contour_test

import (
	"fmt"
	"slices"
	"testing"

	"lithophane/api"
	"lithophane/contour"
)

// vertex is one of the grid, by its coordinates.
type vertex [3]int

func (v vertex) plus(axis, by int) vertex {
	v[axis] += by
	return v
}

func (v vertex) add(w vertex) vertex { return vertex{v[0] + w[0], v[1] + w[1], v[2] + w[2]} }

// point returns the point at which v lies.
func (v vertex) point(level int) api.Point {
	h := length(level)
	return at(v[0]*h, v[1]*h, v[2]*h)
}

func (v vertex) isAtBorder(n int) bool {
	return slices.Contains(v[:], 0) || slices.Contains(v[:], n)
}

func at(x, y, z int) api.Point { return api.Point{X: x, Y: y, Z: z} }

func levels() []int { return []int{1, 2, 3, 4, 5, 6, 7, 8} }

func cells(level int) int { return 1 << level }

// length returns that of an edge.
func length(level int) int { return 2097152 / cells(level) }

// vertices returns those with coordinates from first to last, in the order in which
// a field has them.
func vertices(first, last int) []vertex {
	row := max(0, last-first+1)
	all := make([]vertex, 0, row*row*row)
	for z := first; z <= last; z++ {
		for y := first; y <= last; y++ {
			for x := first; x <= last; x++ {
				all = append(all, vertex{x, y, z})
			}
		}
	}
	return all
}

func indexOf(level int, v vertex) int {
	row := cells(level) + 1
	return v[0] + v[1]*row + v[2]*row*row
}

func isInside(f api.Field, v vertex) bool { return f.In[indexOf(f.Level, v)] }

// fieldOf returns the field of the vertices that do not lie at the border.
func fieldOf(level int, inside func(v vertex) bool) api.Field {
	f := fieldOfVertices(level)
	for _, v := range vertices(1, cells(level)-1) {
		f.In[indexOf(level, v)] = inside(v)
	}
	return f
}

// fieldOfVertices returns the field of the vertices, which may lie anywhere.
func fieldOfVertices(level int, inside ...vertex) api.Field {
	row := cells(level) + 1
	f := api.Field{Level: level, In: make([]bool, row*row*row)}
	for _, v := range inside {
		f.In[indexOf(level, v)] = true
	}
	return f
}

// kindVertices returns the vertices of the cell whose bits are set.
func kindVertices(kind int, cell vertex) []vertex {
	var inside []vertex
	for i, v := range vertices(0, 1) {
		if kind>>i&1 == 1 {
			inside = append(inside, cell.add(v))
		}
	}
	return inside
}

// insideOf returns the inside vertices.
func insideOf(f api.Field) []vertex {
	var all []vertex
	for _, v := range vertices(0, cells(f.Level)) {
		if isInside(f, v) {
			all = append(all, v)
		}
	}
	return all
}

// boxField returns the field of the vertices from low to high.
func boxField(level int, low, high vertex) api.Field {
	return fieldOf(level, func(v vertex) bool { return isBetween(v, low, high) })
}

func isBetween(v, low, high vertex) bool {
	for axis, x := range v {
		if x < low[axis] || x > high[axis] {
			return false
		}
	}
	return true
}

// crossing returns the crossing of the edge from v along the axis.
func crossing(level int, v vertex, axis int) api.Point {
	h := length(level)
	moved := [3]int{v[0] * h, v[1] * h, v[2] * h}
	moved[axis] += h / 2
	return at(moved[0], moved[1], moved[2])
}

// gridEdge is the edge of the grid between two neighbours.
type gridEdge struct{ low, high vertex }

// mixedEdges returns the edges of the grid whose ends differ, with their axes.
func mixedEdges(f api.Field) map[gridEdge]int {
	mixed := map[gridEdge]int{}
	for _, v := range vertices(0, cells(f.Level)) {
		for axis := range 3 {
			if w := v.plus(axis, 1); w[axis] <= cells(f.Level) && isInside(f, v) != isInside(f, w) {
				mixed[gridEdge{v, w}] = axis
			}
		}
	}
	return mixed
}

// octahedron returns the eight triangles around a single vertex.
func octahedron(level int, v vertex) []api.Tri {
	p, r := v.point(level), length(level)/2
	var l []api.Tri
	for _, x := range []int{-r, r} {
		for _, y := range []int{-r, r} {
			for _, z := range []int{-r, r} {
				a, b, c := at(p.X+x, p.Y, p.Z), at(p.X, p.Y+y, p.Z), at(p.X, p.Y, p.Z+z)
				if (x > 0) != (y > 0) != (z > 0) {
					l = append(l, api.Tri{a, b, c})
				} else {
					l = append(l, api.Tri{a, c, b})
				}
			}
		}
	}
	return l
}

// check checks the result of Contour, whose triangles may be wanted in any form.
func check(t *testing.T, f api.Field, want []api.Tri) {
	t.Helper()
	got := contour.Contour(f)
	if want := refCanon(want); !slices.Equal(got, want) {
		i := 0
		for i < min(len(got), len(want)) && got[i] == want[i] {
			i++
		}
		t.Fatalf("Contour of %s: %d triangles, want %d; from %d on: %s; want %s", briefField(f), len(got), len(want), i, brief(got[i:]), brief(want[i:]))
	}
}

func briefField(f api.Field) string {
	row := 1 << max(0, min(f.Level, 9))
	if row++; len(f.In) != row*row*row {
		return fmt.Sprintf("level %d with %d vertices", f.Level, len(f.In))
	}
	inside := insideOf(f)
	return fmt.Sprintf("level %d, %d inside: %s", f.Level, len(inside), brief(inside))
}

func brief[E any](l []E) string {
	if len(l) > 40 {
		return fmt.Sprintf("%v .. (%d in all)", l[:9], len(l))
	}
	return fmt.Sprint(l)
}

func add(number *int, counts bool) {
	if counts {
		*number++
	}
}

// generator is a sequence of numbers that is the same in every run.
type generator uint64

func (g *generator) below(n int) int {
	*g ^= *g << 13
	*g ^= *g >> 7
	*g ^= *g << 17
	return int(uint64(*g) >> 11 % uint64(n))
}

// vertex returns one that does not lie at the border.
func (g *generator) vertex(level int) vertex {
	n := cells(level) - 1
	return vertex{1 + g.below(n), 1 + g.below(n), 1 + g.below(n)}
}

// box returns whether a vertex belongs to a box.
func (g *generator) box(level int) func(v vertex) bool {
	low, high := g.vertex(level), g.vertex(level)
	for axis := range 3 {
		low[axis], high[axis] = min(low[axis], high[axis]), max(low[axis], high[axis])
	}
	return func(v vertex) bool { return isBetween(v, low, high) }
}

// clump returns whether a vertex belongs to a path of neighbours, in edges, faces or cells.
func (g *generator) clump(level, count int) func(v vertex) bool {
	v, path := g.vertex(level), map[vertex]bool{}
	for range count {
		path[v] = true
		for axis := range v {
			v[axis] += (g.below(3) - 1) * g.below(2)
		}
	}
	return func(v vertex) bool { return path[v] }
}

// nested returns whether a vertex belongs to one of several boxes, each in a hollow of
// the next.
func (g *generator) nested(level int) func(v vertex) bool {
	middle, thickness := cells(level)/2, 1+g.below(2)*g.below(level)
	centre := vertex{middle + g.below(3) - 1, middle + g.below(3) - 1, middle + g.below(3) - 1}
	return func(v vertex) bool {
		distance := 0
		for axis, x := range v {
			distance = max(distance, x-centre[axis], centre[axis]-x)
		}
		return distance/thickness%2 == 0
	}
}

// inside returns whether a vertex is inside, in one of many ways.
func (g *generator) inside(level int) func(v vertex) bool {
	n := cells(level)
	centre, radius := g.vertex(level), 1+g.below(n)
	switch g.below(8) {
	case 0:
		density := 1 + g.below(8)
		return func(vertex) bool { return g.below(9) < density }
	case 1:
		return g.box(level)
	case 2:
		b, c := g.box(level), g.box(level)
		return func(v vertex) bool { return b(v) != c(v) }
	case 3:
		return g.clump(level, 1+g.below(6*n))
	case 4:
		return func(v vertex) bool { return (v[0]+v[1]+v[2])%2 == 0 != (g.below(8*n) == 0) }
	case 5:
		return g.nested(level)
	case 6:
		return func(v vertex) bool {
			x, y, z := v[0]-centre[0], v[1]-centre[1], v[2]-centre[2]
			d := x*x + y*y + z*z
			return radius*radius/9 <= d && d <= radius*radius
		}
	}
	slope := vertex{g.below(7) - 3, g.below(7) - 3, g.below(7) - 3}
	return func(v vertex) bool {
		return slope[0]*(v[0]-centre[0])+slope[1]*(v[1]-centre[1])+slope[2]*(v[2]-centre[2]) >= 0
	}
}

// field returns a valid field, some of which are the contrary of others.
func (g *generator) field(level int) api.Field {
	inside, contrary := g.inside(level), g.below(3) == 0
	return fieldOf(level, func(v vertex) bool { return inside(v) != contrary })
}

// forFields calls the function with so many fields of each level.
func forFields(seed uint64, counts []int, call func(g *generator, f api.Field)) {
	g := generator(seed)
	for level, count := range counts {
		for range count {
			call(&g, g.field(level))
		}
	}
}
