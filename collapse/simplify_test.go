package collapse_test

import (
	"math"
	"slices"
	"testing"

	"lithophane/api"
	"lithophane/collapse"
	"lithophane/mesh"
	"lithophane/quadric"
	"lithophane/wide"
)

// checkRun checks the results for all numbers of wanted triangles that make a
// difference, and for others, and returns the whole simplification.
func checkRun(t *testing.T, l []api.Tri) refRun {
	t.Helper()
	run := refSimplification(l, 0, false)
	wants := []int{math.MinInt, -1, 0, 1, 2, len(l) / 2, len(l) + 1, math.MaxInt}
	for _, list := range run.lists[:min(5, len(run.lists))] {
		wants = append(wants, len(list), len(list)-1)
	}
	for _, list := range run.lists[max(0, len(run.lists)-3):] {
		wants = append(wants, len(list), len(list)-1)
	}
	for _, want := range wants {
		list, moves := run.until(want).result()
		checkSimplify(t, l, want, list, moves)
	}
	return run
}

// P11.3: the octahedron: the cost of each collapse is 8000000; the documents' examples.
func TestP11_3Octahedron(t *testing.T) {
	l := octahedron(10)
	px, nx, py, ny, pz, nz := at(10, 0, 0), at(-10, 0, 0), at(0, 10, 0), at(0, -10, 0), at(0, 0, 10), at(0, 0, -10)
	if cost := quadric.At(quadric.Sum(quadric.Around(l, nx), quadric.Around(l, ny)), ny); cost != wide.From(8000000) {
		t.Errorf("cost: %s", wide.Text(cost))
	}
	six := tris(px, ny, nz, px, pz, ny, px, nz, py, px, py, pz, ny, py, nz, ny, pz, py)
	four := tris(px, pz, ny, px, py, pz, px, ny, py, ny, pz, py)
	first, second := api.Move{From: nx, To: ny}, api.Move{From: nz, To: py}
	for want, x := range map[int]struct {
		l     []api.Tri
		moves []api.Move
	}{
		9: {l, nil}, 8: {l, nil}, 7: {six, []api.Move{first}}, 6: {six, []api.Move{first}}, 5: {four, []api.Move{first, second}},
		4: {four, []api.Move{first, second}}, 3: {four, []api.Move{first, second}}, 0: {four, []api.Move{first, second}}, -8: {four, []api.Move{first, second}},
	} {
		checkSimplify(t, l, want, mesh.Canon(x.l), x.moves)
		checkSimplify(t, turned(l), want, mesh.Canon(turned(x.l)), x.moves)
	}
	checkRun(t, l)
}

// P11.3: empty lists.
func TestP11_3Empty(t *testing.T) {
	for _, l := range [][]api.Tri{nil, {}} {
		for _, want := range []int{math.MinInt, -1, 0, 1, math.MaxInt} {
			checkSimplify(t, l, want, nil, nil)
		}
	}
}

// P11.3: lists that mesh.CheckOpen refuses, for each of its errors: the canonical list.
func TestP11_3Refused(t *testing.T) {
	g := generator(41)
	for kind, faulty := range refused() {
		for _, l := range [][]api.Tri{octahedron(10), tent(), flatHill(3), nil} {
			l = g.shuffled(append(l, faulty...))
			if got := mesh.CheckOpen(l); got != kind {
				t.Fatalf("%s: %v; want %v", brief(l), got, kind)
			}
			for _, want := range []int{math.MinInt, 0, 4, len(l) - 1, len(l), math.MaxInt} {
				checkSimplify(t, l, want, mesh.Canon(l), nil)
			}
		}
	}
	l := octahedron(10)
	for _, more := range [][]api.Tri{{l[0]}, {l[0], l[0]}, {{}}, {{at(10, 0, 0), at(10, 0, 0), at(0, 10, 0)}}, {l[3], l[4]}} {
		list := append(slices.Clone(l), more...)
		checkSimplify(t, list, 0, mesh.Canon(list), nil)
	}
}

// P11.3: no collapse is allowed at all.
func TestP11_3NothingAllowed(t *testing.T) {
	for _, l := range [][]api.Tri{
		tetrahedron(), twins(), append(octahedron(10), twins()...), wheel(at(0, 0, 9), square()...), tris(at(0, 0, 0), at(5, 0, 0), at(0, 5, 0)), flatHill(1), flatHill(2), tube(4, 1, 30, 9),
		append(tent(), twins()...), bipyramid(3, 1, 1)[:2],
	} {
		for _, want := range []int{math.MinInt, 0, len(l) - 1} {
			checkSimplify(t, l, want, mesh.Canon(l), nil)
		}
	}
}

// P11.3: among equal costs, the least u is moved, and into the least v: all costs in a
// plane are 0.
func TestP11_3EqualCosts(t *testing.T) {
	g := generator(42)
	for _, place := range []func(p api.Point) api.Point{
		func(p api.Point) api.Point { return p }, func(p api.Point) api.Point { return at(p.Y, p.Z, p.X) }, func(p api.Point) api.Point { return at(p.Z, p.X, p.Y) },
		func(p api.Point) api.Point { return at(-p.X, -p.Y, 5) }, func(p api.Point) api.Point { return at(7, 1-p.X, p.Y-99) }, func(p api.Point) api.Point { return at(p.X+p.Y, p.X, -p.Y) },
		func(p api.Point) api.Point { return at(p.X-15, p.Y-15, p.X-p.Y) },
	} {
		for _, n := range []int{3, 4, 5} {
			l := g.shuffled(placed(flatHill(n), place))
			u, v := firstAllowed(l)
			checkSimplify(t, l, len(l)-1, refCollapse(l, u, v), []api.Move{{From: u, To: v}})
			for _, s := range checkRun(t, l).steps {
				if s.cost != (api.Wide{}) {
					t.Errorf("cost %s", wide.Text(s.cost))
				}
			}
		}
	}
}

// firstAllowed returns the first collapse that is allowed, in the order of the points.
func firstAllowed(l []api.Tri) (u, v api.Point) {
	r := refListOf(l)
	for _, u := range mesh.Corners(l) {
		for _, v := range mesh.Corners(l) {
			if r.allowed(u, v) {
				return u, v
			}
		}
	}
	return u, v
}

// P11.3: costs of 0 come first: corners in planes, and on straight edges.
func TestP11_3CostsOfZero(t *testing.T) {
	for _, l := range [][]api.Tri{
		hill(4, func(i, j int) int { return 10 * max(0, i-2) }), hill(4, func(i, j int) int { return 10 * max(i, 4-i) }), solid(10, cells(3, 2, 2)...), solid(5, cells(3, 3, 1, at(1, 1, 0))...),
		hill(5, func(i, j int) int { return 13 * (max(i, 2) + max(j, 3)) }),
	} {
		run := checkRun(t, l)
		zeros := 0
		for zeros < len(run.steps) && run.steps[zeros].cost == (api.Wide{}) {
			zeros++
		}
		if zeros < 3 {
			t.Errorf("%s: %d costs of 0", brief(l), zeros)
		}
	}
}

// P11.3: costs that do not fit into an int, and such as do not differ but in their last
// digits.
func TestP11_3GreatCosts(t *testing.T) {
	for _, size := range []int{api.MaxCoord, 1 << 40, math.MaxInt} {
		run := checkRun(t, octahedron(size))
		want := []api.Move{{From: at(-size, 0, 0), To: at(0, -size, 0)}, {From: at(0, 0, -size), To: at(0, size, 0)}}
		if _, moves := run.result(); !slices.Equal(moves, want) {
			t.Errorf("size %d: %v", size, moves)
		}
		if _, fits := wide.Int(run.steps[0].cost); fits {
			t.Errorf("size %d: cost %s", size, wide.Text(run.steps[0].cost))
		}
		for _, p := range mesh.Corners(octahedron(size)) {
			near := at(p.X-exactSign(p.X), p.Y-exactSign(p.Y), p.Z-exactSign(p.Z)) // one step nearer to the middle
			checkRun(t, with(octahedron(size), p, near))
		}
	}
	g := generator(43)
	for range 12 {
		l := placed(g.shaken(torus(4, 3, 60, 25), 5), func(p api.Point) api.Point { return at(p.X<<55, p.Y<<55, p.Z<<55) })
		checkRun(t, g.shaken(l, 3))
		checkRun(t, shifted(l, at(math.MinInt+1<<62, 5, 1<<61)))
	}
}

func exactSign(n int) int {
	switch {
	case n < 0:
		return -1
	case n > 0:
		return 1
	}
	return 0
}

// P11.3: the cheapest collapse is made, not the one of the least corner: of two octahedra,
// the smaller one loses its corners first, wherever it is, until none can go.
func TestP11_3Cheapest(t *testing.T) {
	for _, size := range []int{3, 10, 1500, api.MaxCoord, 1 << 40} {
		for _, by := range []api.Point{at(4*size, 0, 0), at(-4*size, 0, 0), at(0, 0, 5*size), at(1, -3*size, 0)} {
			small := shifted(octahedron(size-1), by)
			l := append(octahedron(size), small...)
			run := checkRun(t, l)
			corners := mesh.Corners(small)
			for k, s := range run.steps {
				if isSmall := slices.Contains(corners, s.u); isSmall != (k < 2) {
					t.Errorf("size %d, by %v, step %d: %v into %v", size, by, k, s.u, s.v)
				}
			}
			list, moves := collapse.Simplify(l, 12)
			if small := (api.Move{From: sum(by, at(1-size, 0, 0)), To: sum(by, at(0, 1-size, 0))}); len(list) != 12 || !slices.Contains(moves, small) {
				t.Errorf("size %d, by %v: %v", size, by, moves)
			}
		}
	}
}

// P11.3: surfaces of all kinds, also with holes: each result, and each move.
func TestP11_3Shapes(t *testing.T) {
	steps, chains := 0, 0
	forShapes(44, 24, func(g *generator, name string, l []api.Tri) {
		run := checkRun(t, l)
		steps += len(run.steps)
		chains += run.chains()
	})
	if steps < 2000 || chains < 300 {
		t.Errorf("%d steps, %d of them into corners that are moved later", steps, chains)
	}
}

// chains returns the number of collapses into corners that are moved later.
func (run refRun) chains() int {
	count := 0
	for k, s := range run.steps {
		if slices.ContainsFunc(run.steps[k:], func(later refStep) bool { return later.u == s.v }) {
			count++
		}
	}
	return count
}

// released counts the steps that would have been made before, with the same cost, had
// they been allowed then: by the first condition that did not hold.
func (run refRun) released(counts map[int]int) {
	for k := 1; k < len(run.steps); k++ {
		s, before := run.steps[k], run.steps[k-1]
		isNew := s.u == before.v || s.v == before.v
		if isNew || wide.Cmp(s.cost, before.cost) >= 0 {
			continue
		}
		numbers := refListOf(run.lists[k-1]).broken(s.u, s.v)
		counts[numbers[0]]++
	}
}

// P11.3: a collapse that is not allowed may be allowed later, when it has still the same
// cost: as corners have not as many common neighbours any more, as a triangle that would
// be turned is another one, or as one that would be met is. Among these are surfaces that
// pass near to each other, or through each other.
func TestP11_3AllowedLater(t *testing.T) {
	released := map[int]int{}
	check := func(l []api.Tri) {
		run := refSimplification(l, 0, false)
		list, moves := run.result()
		checkSimplify(t, l, 0, list, moves)
		run.released(released)
	}
	g := generator(45)
	for k := range 240 {
		check(g.stacked(10+k%24, 10))
	}
	for k := range 16 {
		check(g.shaken(torus(12, 3, 60, 6), k/4))
		check(g.shaken(torus(9, 3, 60, 16), k))
		check(g.shaken(append(ball(3, 60), turned(ball(3, 58-k/3))...), k/5))
		check(append(ball(3, 60), shifted(ball(2, 40), at(5*k, 3*k, 3))...))
		check(append(torus(6, 4, 60, 25), torus(5, 4, 60, 25-k)...))
		check(append(flatHill(4), hill(4, func(i, j int) int { return 1 + k*(i-2)*(j-2) })...))
		check(append(tent(), shifted(turned(tent()), at(k, 0, 2))...))
	}
	if min(2*released[3], released[6], released[7]) < 15 {
		t.Errorf("allowed later: %v", released)
	}
}

// P11.3: moved triangles would meet each other, until one of them is changed: the ring of
// the hub is that of TestP11_2MovedIntoMoved, but all around it costs more than the hub.
func TestP11_3MovedApartLater(t *testing.T) {
	g := generator(46)
	v, a, b, d := at(-20, 0, 10), at(0, -10, 0), at(0, 10, 0), at(30, -4, -12)
	for _, x := range []int{12, 13, 14} {
		hub, c := at(10, 0, 60), at(x, 0, -12)
		ring := []api.Point{v, a, b, c, d}
		l := disc(hub, ring, placedPoints(scaled(ring, 20), at(0, 0, 500)))
		l = slices.DeleteFunc(l, func(tri api.Tri) bool { return refHas(tri, a) && refHas(tri, b) && !refHas(tri, hub) })
		checkBroken(t, l, hub, v, 7)
		for range 10 {
			run := checkRun(t, g.shuffled(l))
			if _, moves := run.result(); !slices.Equal(moves, []api.Move{{From: hub, To: v}, {From: c, To: d}}) || wide.Cmp(run.steps[0].cost, run.steps[1].cost) <= 0 {
				t.Fatalf("x %d: moves %v, costs %s, %s", x, moves, wide.Text(run.steps[0].cost), wide.Text(run.steps[1].cost))
			}
		}
	}
}

// P11.3: lists with few corners, with any coordinates.
func TestP11_3Soups(t *testing.T) {
	steps := 0
	forSoups(50, 150, func(g *generator, l []api.Tri) { steps += len(checkRun(t, l).steps) })
	if steps < 150 {
		t.Errorf("%d steps", steps)
	}
}

// P11.3: the quadric of a corner is added up by the collapses: computed anew, it would
// lead to other ones.
func TestP11_3QuadricsAddedUp(t *testing.T) {
	different := 0
	forShapes(47, 6, func(g *generator, name string, l []api.Tri) {
		anew, moves := refSimplification(l, 0, true).result()
		list, want := refSimplify(l, 0)
		if !slices.Equal(list, anew) || !slices.Equal(moves, want) {
			different++
			checkSimplify(t, l, 0, list, want)
		}
	})
	if different < 30 {
		t.Errorf("%d differences", different)
	}
}

// P11.3: no order of the triangles, and of their corners, has an effect.
func TestP11_3Orders(t *testing.T) {
	forShapes(48, 3, func(g *generator, name string, l []api.Tri) {
		for _, want := range []int{0, len(l) * 2 / 3} {
			list, moves := collapse.Simplify(l, want)
			for range 4 {
				checkSimplify(t, g.shuffled(l), want, list, moves)
			}
		}
	})
}

// P11.3: surfaces with some hundred triangles.
func TestP11_3Larger(t *testing.T) {
	g := generator(49)
	for _, l := range [][]api.Tri{
		torus(16, 10, 700, 300), ball(7, 500), hill(14, func(i, j int) int { return i*i + j*j*j/4 - 3*i*j }), g.shaken(flatHill(13), 4), g.shaken(tube(12, 12, 100, 20), 6),
	} {
		run := refSimplification(l, len(l)/2, false)
		for _, want := range []int{len(l) - 9, len(l) * 3 / 4, len(l) / 2} {
			list, moves := run.until(want).result()
			checkSimplify(t, g.shuffled(l), want, list, moves)
		}
	}
}
