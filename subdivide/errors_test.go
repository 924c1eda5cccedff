package subdivide_test

import (
	"fmt"
	"math"
	"slices"
	"testing"

	"lithophane/api"
	"lithophane/subdivide"
)

// fault spoils a control mesh, so that it has the error; faults of other errors may
// come before or behind it.
type fault struct {
	err   api.Errno
	spoil func(c *api.Control)
}

// faults are in the order of the document's list.
func faults() []fault {
	return slices.Concat(faultsOfArguments(), faultsOfMeshes(), faultsOfSizes())
}

func faultsOfArguments() []fault {
	return []fault{
		{api.ErrArg, func(c *api.Control) { c.Steps = 5 }},
		{api.ErrArg, func(c *api.Control) { c.Steps = -1 }},
		{api.ErrArg, func(c *api.Control) { c.Details = append(c.Details, make([][]api.Point, 6)...) }},
		{api.ErrIndex, func(c *api.Control) { c.Tris = append(c.Tris, [3]int{0, 1, math.MaxInt}) }},
		{api.ErrIndex, func(c *api.Control) { c.Tris = append(c.Tris, [3]int{-1, 0, 1}) }},
		{api.ErrIndex, func(c *api.Control) { c.Creases = append(c.Creases, [2]int{0, 1 << 40}) }},
		{api.ErrIndex, func(c *api.Control) { c.Creases = append(c.Creases, [2]int{-2, 1}) }},
		{api.ErrIndex, func(c *api.Control) { c.Corners = append(c.Corners, math.MinInt) }},
	}
}

func faultsOfMeshes() []fault {
	addPoints := func(c *api.Control, count int) int {
		c.Points = append(c.Points, make([]api.Point, count)...)
		return len(c.Points) - count
	}
	return []fault{
		{api.ErrCorner, func(c *api.Control) { c.Tris = append(c.Tris, [3]int{1, 2, 1}) }},
		{api.ErrCorner, func(c *api.Control) { c.Tris = append(c.Tris, [3]int{3, 3, 3}) }},
		{api.ErrEdge, func(c *api.Control) { c.Tris = append(c.Tris, [3]int{2, 1, 0}) }},
		{api.ErrOpen, func(c *api.Control) {
			n := addPoints(c, 3)
			c.Tris = append(c.Tris, [3]int{n, n + 1, n + 2})
		}},
		{api.ErrPinch, func(c *api.Control) {
			n := addPoints(c, 2)
			c.Tris = append(c.Tris, [3]int{n, n + 1, 4}, [3]int{n + 1, n, 4})
		}},
		{api.ErrForm, func(c *api.Control) { c.Creases = append(c.Creases, [2]int{0, 4}) }},
		{api.ErrForm, func(c *api.Control) { c.Creases = append(c.Creases, [2]int{2, 2}) }},
	}
}

func faultsOfSizes() []fault {
	spoilDetail := func(c *api.Control, p api.Point) {
		if len(c.Details) == 0 {
			c.Details = make([][]api.Point, 1)
		}
		c.Details[0] = append([]api.Point{p}, c.Details[0]...)
	}
	return []fault{
		{api.ErrMany, func(c *api.Control) {
			b := body{len(c.Points), c.Tris}.beside(bipyramid(8200))
			c.Tris, c.Points = b.tris, append(c.Points, make([]api.Point, b.points-len(c.Points))...)
		}},
		{api.ErrMany, func(c *api.Control) {
			for range 30 {
				spoilDetail(c, at(1, 2, 3))
			}
		}},
		{api.ErrRange, func(c *api.Control) { c.Points[1].Z = math.MaxInt }},
		{api.ErrRange, func(c *api.Control) { c.Points[0].X = -1 }},
		{api.ErrRange, func(c *api.Control) { spoilDetail(c, at(0, 2097152, 0)) }},
	}
}

// spoiled is what faults spoil: a tetrahedron with the numbers 0 to 3, and a double one
// with the numbers 4 to 8.
func spoiled() api.Control { return tetrahedron().beside(bipyramid(3)).control(1) }

// P9.1: each error by itself.
func TestP9_1Errors(t *testing.T) {
	for i, f := range faults() {
		c := spoiled()
		fineOf(t, c)
		f.spoil(&c)
		if got := refError(c); got != f.err {
			t.Fatalf("fault %d: the reference has %v, want %v", i, got, f.err)
		}
		checkError(t, c, f.err)
	}
}

// P9.1: each pair of errors: the first one of the list counts, whichever of them comes
// first in the mesh.
func TestP9_1PairsOfErrors(t *testing.T) {
	all := faults()
	for i, f := range all {
		for _, g := range all[i:] {
			c, d := spoiled(), spoiled()
			f.spoil(&c)
			g.spoil(&c)
			g.spoil(&d)
			f.spoil(&d)
			checkError(t, c, f.err)
			checkError(t, d, f.err)
		}
	}
}

// P9.1: numbers of steps, and of lists of details, which may be nil.
func TestP9_1Steps(t *testing.T) {
	for _, steps := range []int{math.MinInt, math.MinInt + 1, -1 << 32, -4, -1, 0, 1, 2, 3, 4, 5, 6, 7, 15, 16, 63, 64, 1 << 32, 1<<32 + 1, math.MaxInt - 1, math.MaxInt} {
		for _, count := range []int{0, 1, 2, 3, 4, 5, 6, 100} {
			c := tetrahedron().control(0)
			for i := range c.Points {
				c.Points[i] = at(i, i%2, 3-i)
			}
			c.Steps, c.Details = steps, make([][]api.Point, count)
			if steps < 0 || steps > 4 || count > steps {
				checkError(t, c, api.ErrArg)
			} else {
				m := refFine(c)
				checkFine(t, c, m.places(), m.tris, api.OK)
			}
			checkError(t, api.Control{Points: c.Points[:1], Steps: 5, Corners: []int{-7}}, api.ErrArg)
		}
	}
}

// P9.1: numbers of elements of details, for each step, with other lists nil and empty.
func TestP9_1NumbersOfDetails(t *testing.T) {
	for _, b := range []body{tetrahedron(), octahedron(), torus(3, 3), {points: 3}} {
		for steps := 1; steps <= 3; steps++ {
			count := len(b.tris) * 3 / 2
			for k := range steps {
				for _, x := range []struct {
					elements int
					want     api.Errno
				}{{0, api.OK}, {max(0, count-1), api.OK}, {count, api.OK}, {count + 1, api.ErrMany}, {4*count + 1, api.ErrMany}} {
					c := b.control(steps)
					c.Details = slices.Repeat([][]api.Point{{}}, k+1)
					c.Details[k] = make([]api.Point, x.elements)
					if x.want != api.OK {
						checkError(t, c, x.want)
						continue
					}
					m := refFine(c)
					checkFine(t, c, m.places(), m.tris, api.OK)
				}
				count *= 4
			}
		}
	}
}

// numbers are such of points, and others, for a mesh with so many points.
func numbers(points int) []int {
	return []int{math.MinInt, math.MinInt + 1, -1 << 32, -2, -1, 0, points - 1, points, points + 1, 1 << 32, math.MaxInt - 1, math.MaxInt}
}

// P9.1: numbers in triangles, creases and corners, at all places.
func TestP9_1Indices(t *testing.T) {
	b := tetrahedron().beside(body{points: 2})
	plain := b.control(1)
	plain.Creases, plain.Corners = [][2]int{{0, 1}, {1, 2}, {3, 0}}, []int{5, 2, 4}
	check := func(c api.Control, number int) {
		t.Helper()
		want := refError(c)
		if isPoint := 0 <= number && number < b.points; isPoint == (want == api.ErrIndex) {
			t.Fatalf("the number %d: the reference has %v", number, want)
		}
		if want == api.OK {
			fineOf(t, c)
			return
		}
		checkError(t, c, want)
	}
	for _, number := range numbers(b.points) {
		for i := range 12 {
			c := cloned(plain)
			c.Tris[i/3][i%3] = number
			check(c, number)
		}
		for i := range 6 {
			c := cloned(plain)
			c.Creases[i/2][i%2] = number
			check(c, number)
		}
		for i := range 3 {
			c := cloned(plain)
			c.Corners[i] = number
			check(c, number)
		}
	}
}

// P9.1: meshes without points, with and without triangles, creases and corners.
func TestP9_1NoPoints(t *testing.T) {
	for steps := range 5 {
		checkFine(t, api.Control{Steps: steps}, nil, nil, api.OK)
		checkSurface(t, api.Control{Steps: steps}, nil, api.OK)
		for _, c := range []api.Control{
			{Tris: [][3]int{{0, 0, 0}}}, {Tris: pillow().tris}, {Tris: [][3]int{{-1, -1, -1}}},
			{Creases: [][2]int{{0, 0}}}, {Creases: [][2]int{{0, 1}}}, {Corners: []int{0}}, {Corners: []int{-1}},
		} {
			c.Steps = steps
			checkError(t, c, api.ErrIndex)
		}
	}
}

// P9.1: the errors of mesh.Check, for numbers of points that are at different places, and
// of such that are at one place.
func TestP9_1Meshes(t *testing.T) {
	for _, x := range []struct {
		tris [][3]int
		want api.Errno
	}{
		{[][3]int{{0, 1, 1}}, api.ErrCorner},
		{[][3]int{{0, 1, 0}, {0, 1, 2}, {0, 1, 2}}, api.ErrCorner},
		{[][3]int{{4, 4, 4}, {0, 1, 2}, {0, 2, 1}}, api.ErrCorner},
		{[][3]int{{0, 1, 2}, {0, 1, 2}}, api.ErrEdge},
		{[][3]int{{0, 1, 2}, {1, 2, 0}, {2, 1, 0}, {0, 2, 1}}, api.ErrEdge},
		{[][3]int{{0, 1, 2}, {0, 1, 3}}, api.ErrEdge},
		{[][3]int{{0, 2, 1}, {0, 3, 1}, {1, 2, 3}, {2, 0, 3}}, api.ErrEdge},
		{[][3]int{{0, 1, 2}}, api.ErrOpen},
		{tetrahedron().tris[1:], api.ErrOpen},
		{[][3]int{{0, 1, 2}, {3, 5, 4}}, api.ErrOpen},
		{[][3]int{{0, 1, 2}, {0, 2, 1}, {0, 3, 4}, {0, 4, 3}}, api.ErrPinch},
		{append(tetrahedron().tris, [3]int{2, 4, 5}, [3]int{2, 5, 4}), api.ErrPinch},
		{[][3]int{{0, 1, 2}, {0, 2, 1}, {3, 4, 5}, {3, 5, 4}}, api.OK},
	} {
		c := api.Control{Points: make([]api.Point, 6), Tris: x.tris, Steps: 1}
		for i := range 2 {
			for number := range c.Points {
				c.Points[number] = at(i*number, i*number*number, 5)
			}
			if x.want != api.OK {
				checkError(t, c, x.want)
				continue
			}
			fineOf(t, c)
		}
	}
}

// P9.1: creases of numbers that no edge joins, or only another edge.
func TestP9_1NoEdges(t *testing.T) {
	b := octahedron().beside(tetrahedron()).beside(body{points: 1})
	pairs := joined(b.tris)
	for i := range b.points {
		for j := range b.points {
			c := b.control(1)
			c.Creases = [][2]int{{0, 2}, {i, j}, {2, 0}}
			if slices.Contains(pairs, [2]int{min(i, j), max(i, j)}) {
				fineOf(t, c)
			} else {
				checkError(t, c, api.ErrForm)
			}
		}
	}
	checkError(t, api.Control{Points: make([]api.Point, 2), Creases: [][2]int{{0, 1}}}, api.ErrForm)
	checkError(t, api.Control{Points: make([]api.Point, 1), Creases: [][2]int{{0, 0}}}, api.ErrForm)
}

// inAxes calls check with points that have the coordinate x along one of the axes.
func inAxes(p api.Point, x int, check func(p api.Point)) {
	check(at(x, p.Y, p.Z))
	check(at(p.X, x, p.Z))
	check(at(p.X, p.Y, x))
}

// P9.1: coordinates of points: the greatest one for each number of steps, and others.
func TestP9_1Coordinates(t *testing.T) {
	b := tetrahedron().beside(body{points: 1})
	for steps := range 5 {
		most := greatest(steps)
		for _, x := range []int{math.MinInt, math.MinInt + 1, -1 << 32, -most, -1, 0, most, most + 1, 2097152, 1 << 32, math.MaxInt - 1, math.MaxInt} {
			for number := range b.points {
				plain := b.control(steps)
				inAxes(plain.Points[number], x, func(p api.Point) {
					c := cloned(plain)
					c.Points[number] = p
					if x < 0 || x > most {
						checkError(t, c, api.ErrRange)
					} else if points := fineOf(t, c); points[number] != at(p.X*power(steps), p.Y*power(steps), p.Z*power(steps)) {
						t.Errorf("%d steps: the point %v becomes %v", steps, p, points[number])
					}
				})
			}
		}
	}
}

// P9.1: coordinates of details, in all lists.
func TestP9_1CoordinatesOfDetails(t *testing.T) {
	for steps := 1; steps <= 4; steps++ {
		for k := range steps {
			for _, x := range []int{math.MinInt, math.MinInt + 1, -1 << 32, -2097152, -2097151, -1, 0, 1, 2097151, 2097152, 1 << 32, math.MaxInt - 1, math.MaxInt} {
				inAxes(at(-3, 2097151, -2097151), x, func(p api.Point) {
					c := tetrahedron().control(steps)
					for i := range steps {
						c.Details = append(c.Details, []api.Point{at(i, 1, -i), at(0, 0, 9)})
					}
					c.Details[k][(k+steps)%2] = p
					if x < -2097151 || x > 2097151 {
						checkError(t, c, api.ErrRange)
						return
					}
					m := refFine(c)
					checkFine(t, c, m.places(), m.tris, api.OK)
				})
			}
		}
	}
}

// P9.1: control meshes of many sorts with faults, compared with the definitions.
func TestP9_1ErrorsReference(t *testing.T) {
	seen := map[api.Errno]int{}
	forControls(914, 3000, func(g *generator, c api.Control) {
		for range g.below(3) {
			g.spoil(&c)
		}
		want := refError(c)
		seen[want]++
		if want != api.OK {
			checkError(t, c, want)
			return
		}
		fineOf(t, c)
	})
	for _, err := range []api.Errno{api.OK, api.ErrArg, api.ErrIndex, api.ErrCorner, api.ErrEdge, api.ErrOpen, api.ErrPinch, api.ErrForm, api.ErrMany, api.ErrRange} {
		if seen[err] < 20 {
			t.Errorf("error %v: %d control meshes", err, seen[err])
		}
	}
}

// spoil changes something, by which c may get an error.
func (g *generator) spoil(c *api.Control) {
	n := len(c.Points)
	if n < 2 {
		c.Corners = append(c.Corners, g.between(-1, 2))
		return
	}
	switch g.below(12) {
	case 0:
		c.Steps += g.between(-3, 3)
	case 1:
		c.Details = append(c.Details, make([]api.Point, g.below(90)))
	case 2:
		c.Tris = append(c.Tris, [3]int{g.below(n), g.below(n), g.below(n)})
	case 3:
		c.Tris = c.Tris[g.below(len(c.Tris)+1)/2:]
	case 4:
		b := body{n, c.Tris}.beside(pillow())
		c.Points = append(c.Points, make([]api.Point, 3)...)
		c.Tris = b.tris
		c.Tris[len(c.Tris)-1][g.below(3)] = g.below(n)
	case 5:
		c.Creases = append(c.Creases, [2]int{g.below(n), g.below(n)})
	case 6:
		c.Corners = append(c.Corners, g.between(-1, n))
	case 7:
		c.Points[g.below(n)].Y = g.between(-1, 2097152)
	case 8:
		c.Details = append(c.Details, []api.Point{g.point(-2097152, 2097152)})
	default:
		one, other := g.below(n), g.below(n)
		for i := range c.Tris {
			for j, number := range c.Tris[i] {
				if number == one {
					c.Tris[i][j] = other
				}
			}
		}
	}
}

// P9.1: with an error, all other results are empty; without one, none is.
func TestP9_1EmptyResults(t *testing.T) {
	for i, f := range faults() {
		c := spoiled()
		f.spoil(&c)
		points, tris, first := subdivide.Fine(c)
		l, second := subdivide.Subdivide(c)
		c.Steps = -1
		found, third := subdivide.Analyse(c, nil)
		if len(points)+len(tris)+len(l) > 0 || fmt.Sprint(found) != fmt.Sprint(api.Control{}) || first == api.OK || second != first || third != api.ErrArg {
			t.Errorf("fault %d: %s", i, brief(first, points, tris, second, l, third, found))
		}
	}
}
