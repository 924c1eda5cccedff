package subdivide_test

import (
	"math"
	"slices"
	"testing"

	"lithophane/api"
	"lithophane/subdivide"
)

// controls are control meshes of all sorts, right and not.
func controls() []api.Control {
	all := []api.Control{{}, {Steps: 5}, {Steps: 4}, example(), tetrahedron().beside(pillow()).control(3)}
	forControls(71, 30, func(g *generator, c api.Control) { all = append(all, c) })
	for _, f := range faults() {
		c := spoiled()
		f.spoil(&c)
		all = append(all, c)
	}
	return all
}

// R1: nil and empty lists are the same.
func TestR1NilAndEmpty(t *testing.T) {
	for steps := range 5 {
		empty := api.Control{Points: []api.Point{}, Tris: [][3]int{}, Creases: [][2]int{}, Corners: []int{}, Steps: steps, Details: [][]api.Point{}}
		for _, c := range []api.Control{{Steps: steps}, empty} {
			checkFine(t, c, nil, nil, api.OK)
			checkSurface(t, c, nil, api.OK)
			for _, fine := range [][]api.Point{nil, {}, make([]api.Point, 1)[:0]} {
				checkAnalysis(t, c, fine, api.Control{Steps: steps, Details: make([][]api.Point, steps)}, api.OK)
			}
			checkAnalysis(t, c, make([]api.Point, 1), api.Control{}, api.ErrArg)
		}
		c := octahedron().control(steps)
		m := refFine(c)
		for _, lists := range []api.Control{{}, empty} {
			c.Creases, c.Corners, c.Details = lists.Creases, lists.Corners, lists.Details
			checkFine(t, c, m.places(), m.tris, api.OK)
			checkAnalysis(t, c, m.places(), completed(c), api.OK)
		}
	}
}

// withMemory returns l with other elements behind its end, in memory of its own.
func withMemory[T any](l []T, behind T) []T {
	memory := slices.Concat(l, []T{behind, behind, behind})
	return memory[:len(l)]
}

// R3: arguments, and what lies behind their ends, are unchanged after all calls.
func TestR3Arguments(t *testing.T) {
	for _, plain := range controls() {
		fine, _, _ := subdivide.Fine(plain)
		c := api.Control{
			Points: withMemory(plain.Points, at(7, 7, 7)), Tris: withMemory(plain.Tris, [3]int{7, 8, 9}),
			Creases: withMemory(plain.Creases, [2]int{7, 8}), Corners: withMemory(plain.Corners, 7),
			Steps: plain.Steps, Details: withMemory(plain.Details, []api.Point{at(7, 8, 9)}),
		}
		for k, list := range c.Details {
			c.Details[k] = withMemory(list, at(1, 2, 3))
		}
		fine = withMemory(fine, at(4, 5, 6))
		whole := func() api.Control {
			return cloned(api.Control{Points: c.Points[:cap(c.Points)], Tris: c.Tris[:cap(c.Tris)], Creases: c.Creases[:cap(c.Creases)], Corners: c.Corners[:cap(c.Corners)], Details: c.Details[:cap(c.Details)]})
		}
		wholeLists := func() [][]api.Point {
			var lists [][]api.Point
			for _, list := range append(slices.Clone(c.Details), fine) {
				lists = append(lists, slices.Clone(list[:cap(list)]))
			}
			return lists
		}
		before, beforeLists := whole(), wholeLists()
		subdivide.Fine(c)
		subdivide.Subdivide(c)
		subdivide.Analyse(c, fine)
		if !same(whole(), before) || !slices.EqualFunc(wholeLists(), beforeLists, slices.Equal) {
			t.Fatalf("an argument is changed: %s", brief(plain))
		}
	}
}

// results are those of all functions.
type results struct {
	points               []api.Point
	tris                 [][3]int
	surface              []api.Tri
	found                api.Control
	first, second, third api.Errno
}

// resultsFor calls all functions; Analyse has the points of Fine, or some others.
func resultsFor(c api.Control) results {
	var r results
	r.points, r.tris, r.first = subdivide.Fine(c)
	r.surface, r.second = subdivide.Subdivide(c)
	fine := slices.Clone(r.points)
	if r.first != api.OK {
		fine = make([]api.Point, 200)
	}
	r.found, r.third = subdivide.Analyse(c, fine)
	return r
}

func (r results) cloned() results {
	r.points, r.tris, r.surface, r.found = slices.Clone(r.points), slices.Clone(r.tris), slices.Clone(r.surface), cloned(r.found)
	return r
}

func (r results) equal(s results) bool {
	return slices.Equal(r.points, s.points) && slices.Equal(r.tris, s.tris) && slices.Equal(r.surface, s.surface) && same(r.found, s.found) &&
		r.first == s.first && r.second == s.second && r.third == s.third
}

// spoil overwrites all elements of a list, and what lies behind its end.
func spoil[T any](l []T, with T) {
	l = l[:cap(l)]
	for i := range l {
		l[i] = with
	}
}

// spoil overwrites all lists of the results.
func (r results) spoil() {
	spoil(r.points, at(-7, -7, -7))
	spoil(r.tris, [3]int{-7, -7, -7})
	spoil(r.surface, api.Tri{at(-7, -7, -7)})
	for _, list := range r.found.Details {
		spoil(list, at(-7, -7, -7))
	}
	spoil(r.found.Points, at(-7, -7, -7))
	spoil(r.found.Tris, [3]int{-7, -7, -7})
	spoil(r.found.Creases, [2]int{-7, -7})
	spoil(r.found.Corners, -7)
	spoil(r.found.Details, nil)
}

// R3, R4: the same call returns the same again, whatever is done with earlier results,
// and with calls in between; results share nothing with the arguments.
func TestR4SameAgain(t *testing.T) {
	all := controls()
	var first []results
	for _, c := range all {
		before := cloned(c)
		r := resultsFor(c)
		first = append(first, r.cloned())
		r.spoil()
		if !same(c, before) {
			t.Fatalf("a result shares memory with the argument %s", brief(before))
		}
	}
	for range 3 {
		for i, c := range all {
			r := resultsFor(c)
			if !r.equal(first[i]) {
				t.Fatalf("results for %s: %s, then %s", brief(c), brief(first[i]), brief(r))
			}
			r.spoil()
		}
	}
}

// R3: fine shares no memory with what Analyse returns.
func TestR3Fine(t *testing.T) {
	for _, steps := range []int{0, 1, 2} {
		c := octahedron().control(steps)
		fine := fineOf(t, c)
		before := slices.Clone(fine)
		found, err := subdivide.Analyse(c, fine)
		if err != api.OK {
			t.Fatalf("Analyse of %s: %v", brief(c), err)
		}
		results{found: found}.spoil()
		if !slices.Equal(fine, before) {
			t.Errorf("%d steps: Analyse returns the memory of its argument", steps)
		}
	}
}

// R3: no two lists of one result share memory, also behind their ends.
func TestR3Lists(t *testing.T) {
	c := tetrahedron().beside(body{points: 1}).control(3)
	c.Creases, c.Corners = [][2]int{{0, 1}}, []int{3}
	want := completed(c)
	fine := fineOf(t, c)
	for k := range 3 {
		found, err := subdivide.Analyse(c, fine)
		if err != api.OK {
			t.Fatalf("Analyse of %s: %v", brief(c), err)
		}
		spoil(found.Details[k], at(-7, -7, -7))
		found.Details[k] = want.Details[k]
		if !same(found, want) {
			t.Errorf("the list %d of the details shares memory with another one", k)
		}
	}
	points, tris, _ := subdivide.Fine(c)
	wantTris := slices.Clone(tris)
	spoil(points, at(-7, -7, -7))
	if !slices.Equal(tris, wantTris) {
		t.Error("points and triangles share memory")
	}
}

// P1, R5: all calls end, for control meshes with numbers of all sizes.
func TestP1AnyNumbers(t *testing.T) {
	g := generator(72)
	sizes := []int{math.MinInt, math.MinInt + 1, -1 << 43, -257, -2, -1, 0, 1, 2, 3, 4, 5, 16, 31, 511, 1 << 43, math.MaxInt - 1, math.MaxInt}
	size := func() int {
		if g.below(4) > 0 {
			return g.below(5)
		}
		return pick(&g, sizes)
	}
	seen := map[api.Errno]int{}
	for range 20000 {
		c := api.Control{Steps: size()}
		for range g.below(8) {
			c.Points = append(c.Points, at(size(), size(), size()))
		}
		for range g.below(5) {
			c.Tris = append(c.Tris, [3]int{size(), size(), size()})
		}
		if g.below(2) == 0 {
			c.Tris = pick(&g, bodies()).tris
		}
		for range g.below(3) {
			c.Creases = append(c.Creases, [2]int{size(), size()})
			c.Corners = append(c.Corners, size())
		}
		for range g.below(3) * g.below(2) {
			c.Details = append(c.Details, slices.Repeat([]api.Point{at(size(), size(), size())}, g.below(9)))
		}
		want := refError(c)
		seen[want]++
		if want != api.OK {
			checkError(t, c, want)
			continue
		}
		m := refFine(c)
		checkFine(t, c, m.places(), m.tris, api.OK)
		var fine []api.Point
		for range m.points {
			fine = append(fine, at(size(), size(), size()))
		}
		found, err := refAnalyse(c, fine)
		checkAnalysis(t, c, fine, found, err)
	}
	if len(seen) < 9 || seen[api.OK] < 100 {
		t.Errorf("errors: %v", seen)
	}
}
