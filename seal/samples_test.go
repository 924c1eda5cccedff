package seal_test

import (
	"fmt"
	"math"
	"slices"
	"testing"

	"lithophane/api"
	"lithophane/seal"
)

func edge(axis, x, y, z int) api.Edge { return api.Edge{Axis: axis, X: x, Y: y, Z: z} }

func face(axis, x, y, z int) api.Face { return api.Face{Axis: axis, X: x, Y: y, Z: z} }

func levels() []int { return []int{1, 2, 3, 4, 5, 6, 7, 8} }

func cells(level int) int { return 1 << level }

// star returns the six edges at a vertex.
func star(v vertex) []api.Edge {
	var l []api.Edge
	for axis := range 3 {
		w := v.plus(axis, -1)
		l = append(l, edge(axis, v[0], v[1], v[2]), edge(axis, w[0], w[1], w[2]))
	}
	return l
}

// wall returns the edges along the axis with the coordinate along it, and with
// coordinates from first to last along both other axes.
func wall(axis, coordinate, first, last int) []api.Edge {
	var l []api.Edge
	for x := first; x <= last; x++ {
		for y := first; y <= last; y++ {
			v := vertex{}.plus(axis, coordinate).plus((axis+1)%3, x).plus((axis+2)%3, y)
			l = append(l, edge(axis, v[0], v[1], v[2]))
		}
	}
	return l
}

// ring returns the edges that lead across the border of a square that is normal to
// the axis: they make a box without top and bottom around the vertices that have the
// coordinate along the axis, and those from first to last along both other axes.
func ring(axis, coordinate, first, last int) []api.Edge {
	var l []api.Edge
	for i := range 2 {
		across, along := (axis+1+i)%3, (axis+2-i)%3
		for x := first; x <= last; x++ {
			v := vertex{}.plus(axis, coordinate).plus(along, x)
			low, high := v.plus(across, first-1), v.plus(across, last)
			l = append(l, edge(across, low[0], low[1], low[2]), edge(across, high[0], high[1], high[2]))
		}
	}
	return l
}

// outwards returns the edges of the grid whose ends differ in the field.
func outwards(f api.Field) []api.Edge {
	n := cells(f.Level)
	in := func(v vertex) bool { return f.In[(v[2]*(n+1)+v[1])*(n+1)+v[0]] }
	var l []api.Edge
	for z := range n + 1 {
		for y := range n + 1 {
			for x := range n + 1 {
				v := vertex{x, y, z}
				for axis := range 3 {
					if v[axis] < n && in(v) != in(v.plus(axis, 1)) {
						l = append(l, edge(axis, x, y, z))
					}
				}
			}
		}
	}
	return l
}

// fieldOf returns the field of the vertices.
func fieldOf(level int, inside func(v vertex) bool) api.Field {
	n := cells(level)
	f := api.Field{Level: level}
	for z := range n + 1 {
		for y := range n + 1 {
			for x := range n + 1 {
				f.In = append(f.In, inside(vertex{x, y, z}))
			}
		}
	}
	return f
}

func fieldOfVertices(level int, inside ...vertex) api.Field {
	return fieldOf(level, func(v vertex) bool { return slices.Contains(inside, v) })
}

func sameField(f, g api.Field) bool { return f.Level == g.Level && slices.Equal(f.In, g.In) }

// checkSeal checks both results of Seal.
func checkSeal(t *testing.T, l []api.Edge, level int, field api.Field, patches []api.Patch) {
	t.Helper()
	gotField, gotPatches := seal.Seal(l, level)
	if !slices.Equal(gotPatches, patches) {
		t.Fatalf("Seal of %s, level %d: patches %s; want %s", brief(l), level, brief(gotPatches), brief(patches))
	}
	if !sameField(gotField, field) {
		t.Fatalf("Seal of %s, level %d: inside %s of level %d and %d; want %s", brief(l), level, brief(insideOf(gotField)), gotField.Level, len(gotField.In), brief(insideOf(field)))
	}
}

// insideOf returns the numbers of the inside vertices.
func insideOf(f api.Field) []int {
	var numbers []int
	for i, in := range f.In {
		if in {
			numbers = append(numbers, i)
		}
	}
	return numbers
}

func checkOdd(t *testing.T, l []api.Edge, level int, want []api.Face) {
	t.Helper()
	if got := seal.Odd(l, level); !slices.Equal(got, want) {
		t.Fatalf("Odd of %s, level %d: %s; want %s", brief(l), level, brief(got), brief(want))
	}
}

// check checks all results against the reference, and returns that.
func check(t *testing.T, l []api.Edge, level int) refSealed {
	t.Helper()
	r := refSeal(l, level)
	checkOdd(t, l, level, r.odd)
	checkSeal(t, l, level, r.field, r.patches)
	return r
}

// checkSame checks that two lists have the same results.
func checkSame(t *testing.T, l, same []api.Edge, level int) {
	t.Helper()
	field, patches := seal.Seal(l, level)
	checkOdd(t, same, level, seal.Odd(l, level))
	checkSeal(t, same, level, field, patches)
}

func brief(l any) string {
	text := fmt.Sprint(l)
	return text[:min(len(text), 1500)]
}

// generator is a sequence of numbers that is the same in every run.
type generator uint64

func (g *generator) below(n int) int {
	*g ^= *g << 13
	*g ^= *g >> 7
	*g ^= *g << 17
	return int(uint64(*g) >> 11 % uint64(n))
}

func pick[E any](g *generator, l []E) E { return l[g.below(len(l))] }

func shuffled[E any](g *generator, l []E) []E {
	l = slices.Clone(l)
	for i := range l {
		j := g.below(i + 1)
		l[i], l[j] = l[j], l[i]
	}
	return l
}

// edge returns an edge at any place, which may not exist, but nearly so.
func (g *generator) edge(level int) api.Edge {
	n := cells(level)
	return edge(g.below(3), g.below(n+1), g.below(n+1), g.below(n+1))
}

func (g *generator) scattered(level, count int) []api.Edge {
	var l []api.Edge
	for range count {
		l = append(l, g.edge(level))
	}
	return l
}

// clump returns edges each of which is near to the one before it.
func (g *generator) clump(level, count int) []api.Edge {
	l := []api.Edge{g.edge(level)}
	n := cells(level)
	step := func(x int) int { return min(max(x+g.below(3)-1, 0), n) }
	for range count {
		e := l[len(l)-1]
		l = append(l, edge(g.below(3), step(e.X), step(e.Y), step(e.Z)))
	}
	return l
}

// sheet returns parallel edges that form a rectangle, often near to the border.
func (g *generator) sheet(level int) []api.Edge {
	n, axis := cells(level), g.below(3)
	lengths := [2]int{1 + g.below(n), 1 + g.below(n)}
	first := vertex{}.plus(axis, pick(g, []int{0, 1, n - 2, n - 1, g.below(n)}))
	first = first.plus((axis+1)%3, g.below(n)).plus((axis+2)%3, g.below(n))
	var l []api.Edge
	for x := range lengths[0] {
		for y := range lengths[1] {
			v := first.plus((axis+1)%3, x).plus((axis+2)%3, y)
			l = append(l, edge(axis, v[0], v[1], v[2]))
		}
	}
	return l
}

func (g *generator) sheets(level, count int) []api.Edge {
	var l []api.Edge
	for range count {
		l = append(l, g.sheet(level)...)
	}
	return l
}

// ring returns one, or a few on top of each other, without some of the edges.
func (g *generator) ring(level int) []api.Edge {
	n := cells(level)
	axis, first, height := g.below(3), 1+g.below(n-1), 1+g.below(3)
	last := first + g.below(n-first)
	coordinate := pick(g, []int{1, n - 1, n / 2, 1 + g.below(n-1)})
	var l []api.Edge
	for i := range height {
		l = append(l, ring(axis, min(coordinate+i, n), first, last)...)
	}
	return g.without(l, g.below(4))
}

// field returns one whose border is outside: boxes, or vertices without any order.
func (g *generator) field(level int) api.Field {
	n := cells(level)
	all := n - 1 - g.below(2)*g.below(n)
	low := vertex{1 + g.below(n-1), 1 + g.below(n-1), 1 + g.below(n-1)}
	density := g.below(8)
	return fieldOf(level, func(v vertex) bool {
		for axis, x := range v {
			if x < low[axis] || x > min(low[axis]+all, n-1) {
				return false
			}
		}
		return g.below(8) >= density
	})
}

// without returns the edges but for some.
func (g *generator) without(l []api.Edge, count int) []api.Edge {
	return shuffled(g, l)[min(count, len(l)):]
}

// edges returns a list of one of many kinds.
func (g *generator) edges(level int) []api.Edge {
	n := cells(level)
	switch g.below(9) {
	case 0:
		return g.scattered(level, g.below(pick(g, []int{5 * n, 3 * n * n * n})))
	case 1:
		return g.clump(level, 1+g.below(8*n))
	case 2:
		return g.sheet(level)
	case 3:
		return g.sheets(level, 2+g.below(4))
	case 4:
		return g.without(outwards(g.field(level)), 1+g.below(9))
	case 5:
		return append(outwards(g.field(level)), g.sheet(level)...)
	case 6:
		return g.ring(level)
	case 7:
		return append(g.ring(level), g.sheet(level)...)
	}
	l := slices.Concat(g.clump(level, 5), g.sheet(level), g.scattered(level, 9), strange(level))
	return append(l, g.without(l, g.below(len(l)))...)
}

// forLists calls the function with so many lists of all kinds, of levels up to 4.
func forLists(seed uint64, counts [5]int, call func(g *generator, l []api.Edge, level int)) {
	g := generator(seed)
	for level, count := range counts {
		for range count {
			call(&g, g.edges(level), level)
		}
	}
}

// strange returns edges that do not exist, whatever else they have: no axis, or
// coordinates outside the grid, many of which are equal to good ones if bits are lost.
func strange(level int) []api.Edge {
	n := cells(level)
	var l []api.Edge
	for _, axis := range []int{math.MinInt, math.MinInt + 1, -3, -2, -1, 3, 4, 5, 6, 256, 1 << 32, math.MaxInt} {
		l = append(l, edge(axis, 1, 1, 1), edge(axis, n/2, n/2, n-1))
	}
	outside := []int{math.MinInt, math.MinInt + 1, -1 << 32, -n, -2, -1, n + 1, n + 2, 1 + 2*n, 1 + 256, 1 + 257, 1 + 1<<9, 1 + 1<<16, 1 + 1<<32, 1 + 1<<62, math.MaxInt}
	for axis := range 3 {
		for _, x := range outside {
			l = append(l, edge(axis, x, 1, 1), edge(axis, 1, x, 1), edge(axis, 1, 1, x), edge(axis, x, x, x))
		}
	}
	return l
}

// lastOnes returns the edges that would begin at the last vertices of an axis.
func lastOnes(level int) []api.Edge {
	n := cells(level)
	return slices.Concat(wall(0, n, 0, n), wall(1, n, 0, n), wall(2, n, 0, n))
}

// bordering returns the edges that lie at the border.
func bordering(level int) []api.Edge {
	return slices.DeleteFunc(slices.Clone(refGridOf(level).edges), func(e api.Edge) bool { return !refGridOf(level).isAtBorder(e) })
}
