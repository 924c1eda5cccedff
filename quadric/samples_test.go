package quadric_test

import (
	"fmt"
	"math"
	"math/big"
	"strings"
	"testing"

	"lithophane/api"
	"lithophane/quadric"
	"lithophane/wide"
)

func at(x, y, z int) api.Point { return api.Point{X: x, Y: y, Z: z} }

// names are what the coefficients are multiplied by.
var names = [10]string{"xx", "xy", "xz", "x", "yy", "yz", "y", "zz", "z", "1"}

// text returns the coefficients that are not 0, with their names.
func text(q api.Quadric) string {
	var parts []string
	for k, c := range q {
		if c != (api.Wide{}) {
			parts = append(parts, wide.Text(c)+" "+names[k])
		}
	}
	return "[" + strings.Join(parts, ", ") + "]"
}

// withInts returns the quadric with these coefficients.
func withInts(coefficients [10]int) api.Quadric {
	var q api.Quadric
	for k, n := range coefficients {
		q[k] = wide.From(n)
	}
	return q
}

// only returns the quadric with the coefficient c, and zeros beside it.
func only(k int, c api.Wide) api.Quadric {
	var q api.Quadric
	q[k] = c
	return q
}

// checkOf checks the result of Of, with its representation.
func checkOf(t *testing.T, tri api.Tri, want api.Quadric) {
	t.Helper()
	if got := quadric.Of(tri); got != want {
		t.Fatalf("Of(%v): %s; want %s", tri, text(got), text(want))
	}
}

func checkSum(t *testing.T, a, b, want api.Quadric) {
	t.Helper()
	if got := quadric.Sum(a, b); got != want {
		t.Fatalf("Sum of %s and %s: %s; want %s", text(a), text(b), text(got), text(want))
	}
}

func checkAt(t *testing.T, q api.Quadric, p api.Point, want api.Wide) {
	t.Helper()
	if got := quadric.At(q, p); got != want {
		t.Fatalf("At(%s, %v): %s; want %s", text(q), p, brief(got), brief(want))
	}
}

func checkAround(t *testing.T, l []api.Tri, p api.Point, want api.Quadric) {
	t.Helper()
	if got := quadric.Around(l, p); got != want {
		t.Fatalf("Around(%s, %v): %s; want %s", brief(l), p, text(got), text(want))
	}
}

func brief(value any) string {
	if number, ok := value.(api.Wide); ok {
		value = wide.Text(number)
	}
	content := fmt.Sprintf("%v", value)
	return content[:min(len(content), 800)]
}

// orders returns tri with its corners in all orders, the three rotations first.
func orders(tri api.Tri) []api.Tri {
	a, b, c := tri[0], tri[1], tri[2]
	return []api.Tri{{a, b, c}, {b, c, a}, {c, a, b}, {a, c, b}, {b, a, c}, {c, b, a}}
}

// spaces returns lists of coordinates, from very small ones to the least and the greatest
// ints, and mixed ones.
func spaces() [][]int {
	return [][]int{
		{0, 1}, {-1, 0, 1}, {-9, -8, -7, -6, -5, -4, -3, -2, -1, 0, 1, 2, 3, 4, 5, 6, 7, 8, 9},
		{0, 1, -1, 1000, 1000000, api.MaxCoord - 1, api.MaxCoord}, {api.MaxCoord - 2, api.MaxCoord - 1, api.MaxCoord},
		{0, 1<<30 + 1, -1<<32 + 1, 1<<40 - 1, -1<<47 - 5},
		{math.MinInt, math.MinInt + 1, math.MinInt + 2}, {math.MaxInt - 2, math.MaxInt - 1, math.MaxInt}, {math.MinInt, math.MaxInt},
		{0, 1, -1, api.MaxCoord, math.MinInt, math.MaxInt},
		{math.MinInt, -1 << 62, -1 << 31, -17, 0, 1, 255, 256, api.MaxCoord, 1 << 45, 1 << 62, math.MaxInt},
	}
}

// generator is a sequence of numbers that is the same in every run.
type generator uint64

func (g *generator) below(n int) int {
	*g ^= *g << 13
	*g ^= *g >> 7
	*g ^= *g << 17
	return int(uint64(*g) >> 11 % uint64(n))
}

// pick returns one of the elements.
func pick[T any](g *generator, all []T) T { return all[g.below(len(all))] }

// shuffle brings the elements into another order.
func shuffle[T any](g *generator, all []T) {
	for i := range all {
		j := i + g.below(len(all)-i)
		all[i], all[j] = all[j], all[i]
	}
}

func (g *generator) point(space []int) api.Point {
	return at(pick(g, space), pick(g, space), pick(g, space))
}

// tri returns a triangle, which is flat at times, also with equal corners.
func (g *generator) tri(space []int) api.Tri {
	tri := api.Tri{g.point(space), g.point(space), g.point(space)}
	if g.below(5) == 0 {
		tri[g.below(3)] = tri[g.below(3)]
	}
	return tri
}

// tris returns some triangles, many of which have common corners.
func (g *generator) tris(space []int) []api.Tri {
	var corners []api.Point
	for range 3 + g.below(4) {
		corners = append(corners, g.point(space))
	}
	var l []api.Tri
	for range g.below(9) {
		l = append(l, api.Tri{pick(g, corners), pick(g, corners), pick(g, corners)})
	}
	return l
}

// wide returns a number of up to so many bytes, of either sign; 0 and powers of 2 are not rare.
func (g *generator) wide(most int) api.Wide {
	bytes := make([]byte, g.below(most+1))
	switch g.below(3) {
	case 0:
		for i := range bytes {
			bytes[i] = byte(g.below(256))
		}
	case 1:
		if len(bytes) > 0 {
			bytes[0] = 1 << g.below(8)
		}
	case 2:
		for i := range bytes {
			bytes[i] = 255
		}
	}
	n := new(big.Int).SetBytes(bytes)
	if g.below(2) == 0 {
		n.Neg(n)
	}
	return wideOf(n)
}

// quadric returns one with any coefficients, of one digit or of many, some or many of them 0.
func (g *generator) quadric() api.Quadric {
	most, zeros := pick(g, []int{1, 2, 9, 40}), g.below(10)
	var q api.Quadric
	for k := range q {
		if g.below(10) >= zeros {
			q[k] = g.wide(most)
		}
	}
	return q
}

// uncanonical returns q with coefficients that have the same values, but other forms.
func (g *generator) uncanonical(q api.Quadric) api.Quadric {
	for k, c := range q {
		zeros := g.below(3)
		q[k].Mag = strings.Repeat("\x00", zeros) + c.Mag
		if c == (api.Wide{}) {
			q[k].Neg = g.below(2) == 0
		}
	}
	return q
}

// forSpaces calls check with the coordinates of each space, count times.
func forSpaces(seed, count int, check func(g *generator, space []int)) {
	g := generator(seed)
	for _, space := range spaces() {
		for range count {
			check(&g, space)
		}
	}
}

// forQuadrics calls check with many quadrics with any coefficients.
func forQuadrics(seed, count int, check func(g *generator, q api.Quadric)) {
	g := generator(seed)
	for range count {
		check(&g, g.quadric())
	}
}
