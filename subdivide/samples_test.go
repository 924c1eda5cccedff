package subdivide_test

import (
	"fmt"
	"slices"
	"testing"

	"lithophane/api"
	"lithophane/subdivide"
)

func at(x, y, z int) api.Point { return api.Point{X: x, Y: y, Z: z} }

// body is how some numbered points are joined by triangles.
type body struct {
	points int
	tris   [][3]int
}

func tetrahedron() body { return body{4, [][3]int{{0, 2, 1}, {0, 1, 3}, {1, 2, 3}, {2, 0, 3}}} }

// pillow is two triangles with the same corners.
func pillow() body { return body{3, [][3]int{{0, 1, 2}, {0, 2, 1}}} }

// bipyramid has the poles 0 and 1, and a ring of the points from 2 on.
func bipyramid(sides int) body {
	b := body{points: sides + 2}
	for i := range sides {
		p, q := 2+i, 2+(i+1)%sides
		b.tris = append(b.tris, [3]int{p, q, 0}, [3]int{q, p, 1})
	}
	return b
}

// octahedron has opposite points with the numbers 0 and 1, 2 and 4, 3 and 5.
func octahedron() body { return bipyramid(4) }

// torus has m rows of n points, six triangles at each.
func torus(m, n int) body {
	b := body{points: m * n}
	for i := range m {
		for j := range n {
			b.tris = append(b.tris,
				[3]int{lattice(m, n, i, j), lattice(m, n, i+1, j), lattice(m, n, i+1, j+1)},
				[3]int{lattice(m, n, i, j), lattice(m, n, i+1, j+1), lattice(m, n, i, j+1)})
		}
	}
	return b
}

// lattice returns the number of a point of a torus.
func lattice(m, n, i, j int) int { return (i+m)%m*n + (j+n)%n }

// tent is a square of n rows of n cells, whose border is joined to one more point, the
// last one; the point in row i and column j has the number i*(n+1) + j.
func tent(n int) body {
	b := body{points: (n+1)*(n+1) + 1}
	number := func(i, j int) int { return i*(n+1) + j }
	for i := range n {
		for j := range n {
			p, q, r, s := number(i, j), number(i+1, j), number(i+1, j+1), number(i, j+1)
			b.tris = append(b.tris, [3]int{p, q, r}, [3]int{p, r, s})
		}
	}
	top := b.points - 1
	for k := range n {
		for _, e := range [][2]int{{number(k, 0), number(k+1, 0)}, {number(n, k), number(n, k+1)}, {number(n-k, n), number(n-k-1, n)}, {number(0, n-k), number(0, n-k-1)}} {
			b.tris = append(b.tris, [3]int{e[1], e[0], top})
		}
	}
	return b
}

// beside returns both bodies, the numbers of the second one behind those of the first.
func (b body) beside(other body) body {
	all := body{b.points + other.points, slices.Clone(b.tris)}
	for _, t := range other.tris {
		all.tris = append(all.tris, [3]int{t[0] + b.points, t[1] + b.points, t[2] + b.points})
	}
	return all
}

// bodies are all closed.
func bodies() []body {
	return []body{
		tetrahedron(), octahedron(), bipyramid(3), bipyramid(9), torus(3, 4), torus(5, 4), tent(1), tent(3), pillow(),
		{}, {points: 2}, tetrahedron().beside(octahedron()), pillow().beside(bipyramid(5)), bipyramid(3).beside(body{points: 3}).beside(pillow()),
	}
}

// control returns the control mesh with the points at many different places.
func (b body) control(steps int) api.Control {
	g := generator(900 + steps)
	c := api.Control{Tris: slices.Clone(b.tris), Steps: steps}
	for range b.points {
		c.Points = append(c.Points, g.point(0, greatest(steps)))
	}
	return c
}

// greatest returns the greatest coordinate that a point may have.
func greatest(steps int) int { return [...]int{2097151, 131071, 8191, 511, 31}[steps] }

// power returns 16^n.
func power(n int) int { return [...]int{1, 16, 256, 4096, 65536}[n] }

// joined returns the pairs of numbers that are joined, the lesser number first, in order.
func joined(tris [][3]int) [][2]int {
	var all [][2]int
	for _, t := range tris {
		for i := range t {
			all = append(all, [2]int{min(t[i], t[(i+1)%3]), max(t[i], t[(i+1)%3])})
		}
	}
	slices.SortFunc(all, func(a, b [2]int) int { return slices.Compare(a[:], b[:]) })
	return slices.Compact(all)
}

// numberOf returns the number of the first new point of a pair.
func numberOf(c api.Control, pair [2]int) int {
	return len(c.Points) + slices.Index(joined(c.Tris), [2]int{min(pair[0], pair[1]), max(pair[0], pair[1])})
}

// cloned returns c in memory of its own.
func cloned(c api.Control) api.Control {
	c.Points, c.Tris = slices.Clone(c.Points), slices.Clone(c.Tris)
	c.Creases, c.Corners = slices.Clone(c.Creases), slices.Clone(c.Corners)
	c.Details = slices.Clone(c.Details)
	for k, list := range c.Details {
		c.Details[k] = slices.Clone(list)
	}
	return c
}

// same reports whether two control meshes are equal; nil and empty lists are.
func same(c, d api.Control) bool {
	return slices.Equal(c.Points, d.Points) && slices.Equal(c.Tris, d.Tris) && slices.Equal(c.Creases, d.Creases) &&
		slices.Equal(c.Corners, d.Corners) && c.Steps == d.Steps && slices.EqualFunc(c.Details, d.Details, slices.Equal)
}

func brief(values ...any) string {
	text := fmt.Sprintf("%+v", values)
	return text[:min(len(text), 1200)]
}

// fineOf returns the points of a right control mesh.
func fineOf(t *testing.T, c api.Control) []api.Point {
	t.Helper()
	points, _, err := subdivide.Fine(c)
	if err != api.OK {
		t.Fatalf("Fine of %s: %v", brief(c), err)
	}
	return points
}

// checkFine checks the results of Fine.
func checkFine(t *testing.T, c api.Control, points []api.Point, tris [][3]int, want api.Errno) {
	t.Helper()
	gotPoints, gotTris, err := subdivide.Fine(c)
	if err != want || !slices.Equal(gotPoints, points) || !slices.Equal(gotTris, tris) {
		t.Fatalf("Fine of %s: %s; want %s", brief(c), brief(err, gotPoints, gotTris), brief(want, points, tris))
	}
}

// checkSurface checks the results of Subdivide.
func checkSurface(t *testing.T, c api.Control, l []api.Tri, want api.Errno) {
	t.Helper()
	if got, err := subdivide.Subdivide(c); err != want || !slices.Equal(got, l) {
		t.Fatalf("Subdivide of %s: %s; want %s", brief(c), brief(err, got), brief(want, l))
	}
}

// checkAnalysis checks the results of Analyse.
func checkAnalysis(t *testing.T, c api.Control, fine []api.Point, found api.Control, want api.Errno) {
	t.Helper()
	if got, err := subdivide.Analyse(c, fine); err != want || !same(got, found) {
		t.Fatalf("Analyse of %s with %s: %s; want %s", brief(c), brief(fine), brief(err, got), brief(want, found))
	}
}

// checkError checks that c has the error for Fine and Subdivide, and for Analyse the
// error that it has without details, and with all points at 0, 0, 0.
func checkError(t *testing.T, c api.Control, want api.Errno) {
	t.Helper()
	checkFine(t, c, nil, nil, want)
	checkSurface(t, c, nil, want)
	bare := cloned(c)
	bare.Details, bare.Points = nil, make([]api.Point, len(c.Points))
	wantBare, fine := refError(bare), make([]api.Point, 1)
	if len(c.Points) > 0 {
		fine = nil // too few points, as one would be too many otherwise
	}
	if wantBare == api.OK {
		wantBare = api.ErrArg
	}
	checkAnalysis(t, c, fine, api.Control{}, wantBare)
}

// generator is a sequence of numbers that is the same in every run.
type generator uint64

func (g *generator) below(n int) int {
	*g ^= *g << 13
	*g ^= *g >> 7
	*g ^= *g << 17
	return int(uint64(*g) >> 11 % uint64(n))
}

// between returns a number from least to most.
func (g *generator) between(least, most int) int { return least + g.below(most-least+1) }

func (g *generator) point(least, most int) api.Point {
	return at(g.between(least, most), g.between(least, most), g.between(least, most))
}

// pick returns one of the elements.
func pick[T any](g *generator, all []T) T { return all[g.below(len(all))] }

// shuffle brings the elements into another order.
func shuffle[T any](g *generator, all []T) {
	for i := range all {
		j := i + g.below(len(all)-i)
		all[i], all[j] = all[j], all[i]
	}
}

// body returns one of the bodies, with other numbers, with triangles in another order,
// and with some of them cut into three, and some edges turned.
func (g *generator) body() body {
	b := pick(g, bodies())
	b.points += g.below(3) / 2
	for range g.below(6) {
		b = g.changed(b)
	}
	numbers := make([]int, b.points)
	for i := range numbers {
		numbers[i] = i
	}
	shuffle(g, numbers)
	shuffle(g, b.tris)
	for i, t := range b.tris {
		first := g.below(3)
		b.tris[i] = [3]int{numbers[t[first]], numbers[t[(first+1)%3]], numbers[t[(first+2)%3]]}
	}
	return b
}

// changed returns b with a triangle cut into three, or an edge turned, if that leaves it closed.
func (g *generator) changed(b body) body {
	if len(b.tris) == 0 {
		return b
	}
	i := g.below(len(b.tris))
	t, others := b.tris[i], slices.Delete(slices.Clone(b.tris), i, i+1)
	if g.below(2) == 0 {
		n := b.points
		return body{n + 1, append(others, [3]int{t[0], t[1], n}, [3]int{t[1], t[2], n}, [3]int{t[2], t[0], n})}
	}
	for j, other := range others {
		if k := slices.Index(other[:], t[1]); k >= 0 && other[(k+1)%3] == t[0] {
			d := other[(k+2)%3]
			turned := body{b.points, append(slices.Delete(others, j, j+1), [3]int{t[2], t[0], d}, [3]int{d, t[1], t[2]})}
			if refError(turned.control(0)) == api.OK {
				return turned
			}
			return b
		}
	}
	return b
}

// control returns a right control mesh with creases, corners and details.
func (g *generator) control() api.Control {
	b := g.body()
	steps := g.below(4)
	for len(b.tris)<<(2*steps) > 700 {
		steps--
	}
	c := api.Control{Tris: b.tris, Steps: steps}
	least, most := 0, greatest(steps)
	switch g.below(4) {
	case 0:
		most = min(most, 3)
	case 1:
		least = most - most/5
	}
	for range b.points {
		c.Points = append(c.Points, g.point(least, most))
	}
	g.addCreases(&c)
	g.addDetails(&c)
	return c
}

// addCreases adds creases: few or many of the edges, mentioned once or more often, or
// ways along edges; and corners.
func (g *generator) addCreases(c *api.Control) {
	pairs := joined(c.Tris)
	if density := g.below(6); density < 4 {
		for _, pair := range pairs {
			for range g.below(density*3+1) / 4 {
				c.Creases = append(c.Creases, pair)
				pair[0], pair[1] = pair[1], pair[0]
			}
		}
	} else if len(pairs) > 0 {
		end := pick(g, pairs)[g.below(2)]
		for range 2 + g.below(9) {
			ways := slices.DeleteFunc(slices.Clone(pairs), func(pair [2]int) bool { return !slices.Contains(pair[:], end) })
			way := pick(g, ways)
			c.Creases = append(c.Creases, way)
			end = way[0] + way[1] - end
		}
	}
	shuffle(g, c.Creases)
	for range g.below(3) * g.below(3) {
		if len(c.Points) > 0 {
			c.Corners = append(c.Corners, g.below(len(c.Points)))
		}
	}
}

// addDetails adds lists of details, which are shorter than they may be, or not.
func (g *generator) addDetails(c *api.Control) {
	tris, first := c.Tris, len(c.Points)
	for range g.below(c.Steps + 1) {
		count := len(joined(tris))
		if g.below(3) == 0 {
			count = g.below(count + 1)
		}
		most := pick(g, []int{0, 1, 50, 2097151})
		var list []api.Point
		for range count {
			list = append(list, g.point(-most, most))
		}
		c.Details = append(c.Details, list)
		first, tris = refCut(first, tris)
	}
}

// forControls calls check with many right control meshes.
func forControls(seed, count int, check func(g *generator, c api.Control)) {
	g := generator(seed)
	for range count {
		check(&g, g.control())
	}
}
