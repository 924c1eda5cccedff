package subdivide_test

import (
	"slices"
	"testing"

	"lithophane/api"
	"lithophane/subdivide"
)

// example is the document's tetrahedron.
func example() api.Control {
	return api.Control{Points: []api.Point{{}, {X: 16}, {Y: 16}, {Z: 16}}, Tris: tetrahedron().tris, Steps: 1}
}

// P9.1: the document's examples.
func TestP9_1Examples(t *testing.T) {
	plain, one, two, detailed := example(), example(), example(), example()
	one.Creases = [][2]int{{0, 1}}
	two.Creases = [][2]int{{0, 1}, {1, 2}}
	detailed.Details = [][]api.Point{{at(1, 2, 3)}}
	for _, x := range []struct {
		c    api.Control
		want api.Point
	}{{plain, at(128, 0, 0)}, {one, at(128, 0, 0)}, {two, at(144, -16, 0)}, {detailed, at(129, 2, 3)}} {
		if points := fineOf(t, x.c); len(points) != 10 || points[4] != x.want {
			t.Errorf("Fine of %s: %v; want point 4 at %v", brief(x.c), points, x.want)
		}
	}
}

// finerExample are the triangles of the tetrahedron behind one step.
func finerExample() [][3]int {
	return [][3]int{
		{0, 5, 4}, {5, 2, 7}, {4, 7, 1}, {5, 7, 4},
		{0, 4, 6}, {4, 1, 8}, {6, 8, 3}, {4, 8, 6},
		{1, 7, 8}, {7, 2, 9}, {8, 9, 3}, {7, 9, 8},
		{2, 5, 9}, {5, 0, 6}, {9, 6, 3}, {5, 6, 9},
	}
}

// P9.1: all points and triangles of the tetrahedron.
func TestP9_1Tetrahedron(t *testing.T) {
	points := []api.Point{
		at(0, 0, 0), at(256, 0, 0), at(0, 256, 0), at(0, 0, 256),
		at(128, 0, 0), at(0, 128, 0), at(0, 0, 128), at(128, 128, 0), at(128, 0, 128), at(0, 128, 128),
	}
	checkFine(t, example(), points, finerExample(), api.OK)
}

// P9.1: new points get the next numbers, by the lesser number of their edges, then the
// greater one; four triangles take the place of each, in their order; in both steps.
func TestP9_1Numbers(t *testing.T) {
	c := example()
	c.Steps = 2
	_, tris, err := subdivide.Fine(c)
	if err != api.OK || len(tris) != 64 {
		t.Fatalf("Fine: %v, %d triangles", err, len(tris))
	}
	pairs := [][2]int{
		{0, 4}, {0, 5}, {0, 6}, {1, 4}, {1, 7}, {1, 8}, {2, 5}, {2, 7}, {2, 9}, {3, 6}, {3, 8}, {3, 9},
		{4, 5}, {4, 6}, {4, 7}, {4, 8}, {5, 6}, {5, 7}, {5, 9}, {6, 8}, {6, 9}, {7, 8}, {7, 9}, {8, 9},
	}
	numberOf := func(a, b int) int { return 10 + slices.Index(pairs, [2]int{min(a, b), max(a, b)}) }
	for i, s := range finerExample() {
		a, b, c := s[0], s[1], s[2]
		x, y, z := numberOf(a, b), numberOf(b, c), numberOf(c, a)
		want := [][3]int{{a, x, z}, {x, b, y}, {z, y, c}, {x, y, z}}
		if got := tris[4*i : 4*i+4]; !slices.Equal(got, want) {
			t.Errorf("instead of %v: %v; want %v", s, got, want)
		}
	}
	first := [][3]int{{0, 11, 10}, {11, 5, 22}, {10, 22, 4}, {11, 22, 10}}
	if !slices.Equal(tris[:4], first) {
		t.Errorf("the first triangles: %v; want %v", tris[:4], first)
	}
}

// sixteenth returns the sum of products of factors and points, divided by 16.
func sixteenth(t *testing.T, points []api.Point, factors map[int]int) api.Point {
	t.Helper()
	var sum api.Point
	for number, factor := range factors {
		p := points[number]
		sum = at(sum.X+factor*p.X, sum.Y+factor*p.Y, sum.Z+factor*p.Z)
	}
	if sum.X%16 != 0 || sum.Y%16 != 0 || sum.Z%16 != 0 {
		t.Fatalf("%v / 16 is not exact", sum)
	}
	return at(sum.X/16, sum.Y/16, sum.Z/16)
}

// smooth returns the factors of the rule for edges that are no creases; outer are the
// numbers c, d, e, f, g and h.
func smooth(a, b int, outer [6]int) map[int]int {
	factors := map[int]int{a: 8, b: 8}
	for i, number := range outer {
		factors[number] += [...]int{2, 2, -1, -1, -1, -1}[i]
	}
	return factors
}

// sharp returns the factors of the rule for creases.
func sharp(a, b, p, q int) map[int]int {
	factors := map[int]int{a: 9, b: 9}
	factors[p]--
	factors[q]--
	return factors
}

// checkNew checks the new point of an edge in the first of the steps, for all Steps.
func checkNew(t *testing.T, b body, creases [][2]int, corners []int, edge [2]int, factors map[int]int) {
	t.Helper()
	for steps := 1; steps <= 4; steps++ {
		c := b.control(steps)
		c.Creases, c.Corners = creases, corners
		points := fineOf(t, c)
		number := numberOf(c, edge)
		if want := sixteenth(t, points, factors); points[number] != want {
			t.Errorf("%d steps, creases %v, corners %v: the new point of %v is at %v, want %v", steps, creases, corners, edge, points[number], want)
		}
	}
}

// P9.1: the rule for edges that are no creases, where outer corners coincide, and where
// they do not.
func TestP9_1Smooth(t *testing.T) {
	for _, x := range []struct {
		b     body
		edge  [2]int
		outer [6]int
	}{
		{tetrahedron(), [2]int{0, 1}, [6]int{3, 2, 2, 2, 3, 3}},
		{tetrahedron(), [2]int{2, 3}, [6]int{1, 0, 0, 0, 1, 1}},
		{pillow(), [2]int{0, 1}, [6]int{2, 2, 0, 1, 0, 1}},
		{octahedron(), [2]int{2, 3}, [6]int{0, 1, 4, 5, 4, 5}},
		{octahedron(), [2]int{0, 2}, [6]int{3, 5, 1, 4, 1, 4}},
		{octahedron(), [2]int{5, 1}, [6]int{2, 4, 0, 3, 0, 3}},
		{bipyramid(3), [2]int{2, 3}, [6]int{0, 1, 4, 4, 4, 4}},
		{bipyramid(3), [2]int{0, 4}, [6]int{2, 3, 1, 3, 1, 2}},
		{bipyramid(9), [2]int{10, 2}, [6]int{0, 1, 9, 9, 3, 3}},
		{bipyramid(9), [2]int{1, 5}, [6]int{6, 4, 0, 7, 0, 3}},
		{bipyramid(9), [2]int{0, 10}, [6]int{2, 9, 1, 3, 1, 8}},
		{tetrahedron().beside(bipyramid(9)), [2]int{14, 6}, [6]int{4, 5, 13, 13, 7, 7}},
	} {
		checkNew(t, x.b, nil, nil, x.edge, smooth(x.edge[0], x.edge[1], x.outer))
	}
}

// P9.1: the rule for all edges of tori, by the rows and columns of their points.
func TestP9_1Lattice(t *testing.T) {
	for _, x := range []struct{ m, n int }{{3, 3}, {3, 4}, {5, 4}, {7, 5}} {
		c := torus(x.m, x.n).control(1)
		points := fineOf(t, c)
		for number := range c.Points {
			i, j := number/x.n, number%x.n
			for _, way := range [][4]int{{1, 0, 1, 1}, {1, 1, 0, 1}, {0, 1, -1, 0}} {
				v, w := way[:2], way[2:] // from a to b, and from a to c
				at := func(byV, byW int) int {
					return lattice(x.m, x.n, i+byV*v[0]+byW*w[0]+2*x.m, j+byV*v[1]+byW*w[1]+2*x.n)
				}
				a, b := at(0, 0), at(1, 0)
				factors := smooth(a, b, [6]int{at(0, 1), at(1, -1), at(1, 1), at(-1, 1), at(0, -1), at(2, -1)})
				if got, want := points[numberOf(c, [2]int{a, b})], sixteenth(t, points, factors); got != want {
					t.Errorf("torus %v: the new point of %d and %d is at %v, want %v", x, a, b, got, want)
				}
			}
		}
	}
}

// cubic is a polynomial of the third degree.
func cubic(x, y int) int {
	return 600 + x*x*x - 2*x*x*y + x*y*y + y*y*y - 4*x*x + 3*x*y - 7*y*y + 5*x + 2*y
}

// P9.1: where six triangles meet at all points around, both rules leave polynomials of
// the third degree as they are, in all steps.
func TestP9_1Polynomials(t *testing.T) {
	const n = 9
	b := tent(n)
	for _, creases := range [][][2]int{nil, line(n, n/2)} {
		c := api.Control{Tris: b.tris, Steps: 2, Creases: creases}
		for i := range n + 1 {
			for j := range n + 1 {
				c.Points = append(c.Points, at(i, j, cubic(i, j)))
			}
		}
		c.Points = append(c.Points, at(77, 3, 6000))
		points := fineOf(t, c)
		isRegular := regular(n, c.Tris, c.Steps)
		number := 0
		for i, p := range points {
			if isRegular[i] {
				number++
				checkCubic(t, p)
			}
		}
		if number < 500 {
			t.Errorf("%d points", number)
		}
	}
}

// checkCubic checks that Z is the polynomial of X and Y, with all coordinates times 256.
func checkCubic(t *testing.T, p api.Point) {
	t.Helper()
	if p.X%64 != 0 || p.Y%64 != 0 || p.Z%4 != 0 {
		t.Fatalf("%v is not between points", p)
	}
	// In quarters, all terms are made to be of the third degree.
	x, y, one := p.X/64, p.Y/64, 4
	value := 600*one*one*one + x*x*x - 2*x*x*y + x*y*y + y*y*y + one*(-4*x*x+3*x*y-7*y*y) + one*one*(5*x+2*y)
	if p.Z != 4*value {
		t.Errorf("%v: Z is not %d", p, 4*value)
	}
}

// line returns the creases along the points with the column j in a tent.
func line(n, j int) [][2]int {
	var creases [][2]int
	for i := range n {
		creases = append(creases, [2]int{i*(n+1) + j, (i+1)*(n+1) + j})
	}
	return creases
}

// regular reports for the points of a tent and those of its steps, whether they depend
// on points of the square only, with six triangles at each of them. On a line of creases,
// those that are regular also have regular points before and behind them on the line.
func regular(n int, tris [][3]int, steps int) []bool {
	isRegular := slices.Repeat([]bool{true}, (n+1)*(n+1)+1)
	isRegular[(n+1)*(n+1)] = false
	for range steps {
		m := refMesh{tris: tris}
		points := len(isRegular)
		for _, pair := range joined(tris) {
			a, b := pair[0], pair[1]
			c, d := m.third(a, b), m.third(b, a)
			around := []int{a, b, c, d, m.third(c, b), m.third(a, c), m.third(d, a), m.third(b, d)}
			isRegular = append(isRegular, !slices.ContainsFunc(around, func(number int) bool { return !isRegular[number] }))
		}
		_, tris = refCut(points, tris)
	}
	return isRegular
}

// P9.1: the details of step k count 16^(Steps - 1 - k) times, where they are, and have
// an effect on no other new points of the step.
func TestP9_1Details(t *testing.T) {
	for steps := 1; steps <= 4; steps++ {
		plain := octahedron().control(steps)
		before := fineOf(t, plain)
		first, tris := len(plain.Points), plain.Tris
		for k := range steps {
			last, finer := refCut(first, tris)
			for _, i := range []int{0, 1, (last - first) / 2, last - first - 1} {
				c := cloned(plain)
				c.Details = make([][]api.Point, k+1)
				c.Details[k] = append(make([]api.Point, i), at(2097151, -2097151, 5))
				after := fineOf(t, c)
				unit := power(steps - 1 - k)
				p := before[first+i]
				want := at(p.X+2097151*unit, p.Y-2097151*unit, p.Z+5*unit)
				if after[first+i] != want {
					t.Errorf("%d steps, step %d: point %d is at %v, want %v", steps, k, first+i, after[first+i], want)
				}
				after[first+i] = p
				if !slices.Equal(after[:last], before[:last]) {
					t.Errorf("%d steps, step %d: the detail of point %d has an effect on others of the step", steps, k, first+i)
				}
			}
			first, tris = last, finer
		}
	}
}

// P9.1: missing elements and lists of details count as 0.
func TestP9_1MissingDetails(t *testing.T) {
	forControls(911, 150, func(g *generator, c api.Control) {
		points := fineOf(t, c)
		for len(c.Details) < c.Steps {
			c.Details = append(c.Details, nil)
		}
		first, tris := len(c.Points), c.Tris
		for k, list := range c.Details {
			last, finer := refCut(first, tris)
			c.Details[k] = append(slices.Clone(list), make([]api.Point, last-first-len(list))...)
			first, tris = last, finer
		}
		if got := fineOf(t, c); !slices.Equal(got, points) {
			t.Fatalf("Fine of %s: %s; with fewer elements %s", brief(c), brief(got), brief(points))
		}
	})
}

// P9.1: without steps, points and triangles stay, whatever creases and corners there are.
func TestP9_1NoSteps(t *testing.T) {
	for _, b := range bodies() {
		c := b.control(0)
		c.Creases = joined(c.Tris)
		if len(c.Points) > 1 {
			c.Corners = []int{1, 0, 1}
		}
		checkFine(t, c, c.Points, c.Tris, api.OK)
	}
}

// P9.1: points that belong to no triangle only get other coordinates.
func TestP9_1NoTriangles(t *testing.T) {
	c := api.Control{Points: []api.Point{at(1, 2, 3), at(31, 0, 31), at(1, 2, 3)}, Corners: []int{2, 0, 2}}
	for steps := range 5 {
		c.Steps = steps
		u := power(steps)
		want := []api.Point{at(u, 2*u, 3*u), at(31*u, 0, 31*u), at(u, 2*u, 3*u)}
		for count := range steps + 1 {
			c.Details = make([][]api.Point, count)
			checkFine(t, c, want, nil, api.OK)
			checkFine(t, api.Control{Steps: steps, Details: c.Details}, nil, nil, api.OK)
		}
	}
}

// P9.1: points at equal places are different ones.
func TestP9_1EqualPlaces(t *testing.T) {
	c := tetrahedron().control(2)
	for i := range c.Points {
		c.Points[i] = at(3, 2, 1)
	}
	points, tris, err := subdivide.Fine(c)
	if err != api.OK || len(points) != 34 || len(tris) != 64 {
		t.Errorf("Fine: %v, %d points, %d triangles", err, len(points), len(tris))
	}
	for i, p := range points {
		if p != at(768, 512, 256) {
			t.Errorf("point %d: %v", i, p)
		}
	}
}

// P9.1: two triangles with the same corners. Behind a step, the edges between new points
// belong to both of them; a pair of numbers has one new point nevertheless.
func TestP9_1TwoTriangles(t *testing.T) {
	c := pillow().control(1)
	points := fineOf(t, c)
	for i, factors := range []map[int]int{{0: 6, 1: 6, 2: 4}, {0: 6, 1: 4, 2: 6}, {0: 4, 1: 6, 2: 6}} {
		if want := sixteenth(t, points, factors); len(points) != 6 || points[3+i] != want {
			t.Errorf("the new points are %v; want number %d at %v", points, 3+i, want)
		}
	}
	tris := [][3]int{{0, 3, 4}, {3, 1, 5}, {4, 5, 2}, {3, 5, 4}, {0, 4, 3}, {4, 2, 5}, {3, 5, 1}, {4, 5, 3}}
	checkFine(t, c, points, tris, api.OK)
	for steps, count := range []int{3, 6, 15, 45, 153} {
		c := pillow().control(steps)
		c.Creases, c.Corners = [][2]int{{0, 1}, {1, 2}}, []int{2}
		m := refFine(c)
		checkFine(t, c, m.places(), m.tris, api.OK)
		if len(m.points) != count {
			t.Errorf("%d steps: %d points, want %d", steps, len(m.points), count)
		}
	}
	c = pillow().control(2)
	c.Details = [][]api.Point{make([]api.Point, 3), make([]api.Point, 9)}
	fineOf(t, c)
	c.Details[1] = make([]api.Point, 10)
	checkError(t, c, api.ErrMany)
}

// P9.1: right control meshes of many sorts, compared with the definitions.
func TestP9_1Reference(t *testing.T) {
	steps := map[int]int{}
	forControls(912, 1500, func(g *generator, c api.Control) {
		m := refFine(c)
		checkFine(t, c, m.places(), m.tris, api.OK)
		steps[c.Steps]++
	})
	if min(steps[0], steps[1], steps[2], steps[3]) < 100 {
		t.Errorf("steps: %v", steps)
	}
}
