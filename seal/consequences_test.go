package seal_test

import (
	"slices"
	"testing"

	"lithophane/api"
	"lithophane/seal"
)

// separated returns the edges that belong to an odd number of: those that are given,
// and the patches that Seal returns; these are found by their least faces among the
// components of the faces that Odd returns.
func separated(t *testing.T, l []api.Edge, level int) map[api.Edge]bool {
	t.Helper()
	r := refGridOf(level)
	set := r.given(l)
	components := r.components(seal.Odd(l, level))
	_, patches := seal.Seal(l, level)
	if len(patches) != len(components) {
		t.Fatalf("Seal of %s, level %d: %d patches for %d components", brief(l), level, len(patches), len(components))
	}
	for i, p := range patches {
		edges := r.patch(components[i], p.Dir)
		if p.Least != components[i][0] || p.Edges != len(edges) {
			t.Fatalf("Seal of %s, level %d: patch %+v; the least face %+v, %d edges", brief(l), level, p, components[i][0], len(edges))
		}
		for _, e := range edges {
			set[e] = !set[e]
		}
	}
	return onlyTrue(set)
}

// P7.4: each cell has an even number of odd faces, and none of them is at the border.
func TestP7_4Cells(t *testing.T) {
	numbers := map[int]int{}
	forLists(741, [5]int{0, 50, 200, 200, 20}, func(g *generator, l []api.Edge, level int) {
		odd := seal.Odd(l, level)
		isOdd := map[api.Face]bool{}
		for _, f := range odd {
			isOdd[f] = true
			if x := []int{f.X, f.Y, f.Z}[f.Axis]; x <= 0 || x >= cells(level) {
				t.Fatalf("Odd of %s, level %d: %+v", brief(l), level, f)
			}
		}
		for _, cell := range refGridOf(level).cells {
			count := 0
			for _, f := range refGridOf(level).facesOf[cell] {
				add(&count, isOdd[f])
			}
			if count%2 == 1 {
				t.Fatalf("Odd of %s, level %d: %d faces of the cell %v", brief(l), level, count, cell)
			}
			numbers[count]++
		}
	})
	if min(numbers[0], numbers[2], numbers[4], numbers[6]) < 20 {
		t.Errorf("odd faces of cells: %v", numbers)
	}
}

// P7.4: behind the patches, each face is even, and the field separates exactly the
// ends of the edges of the set, but for the border.
func TestP7_4Separated(t *testing.T) {
	separate, together := 0, 0
	forLists(742, [5]int{0, 50, 300, 300, 20}, func(g *generator, l []api.Edge, level int) {
		r, n := refGridOf(level), cells(level)
		set := separated(t, l, level)
		if odd := r.odd(set); len(odd) > 0 {
			t.Fatalf("Seal of %s, level %d: faces that are odd behind the patches: %+v", brief(l), level, odd)
		}
		field, _ := seal.Seal(l, level)
		in := func(v vertex) bool { return field.In[(v[2]*(n+1)+v[1])*(n+1)+v[0]] }
		for _, e := range r.edges {
			if r.isBorderVertex(start(e)) || r.isBorderVertex(end(e)) {
				continue
			}
			if set[e] != (in(start(e)) != in(end(e))) {
				t.Fatalf("Seal of %s, level %d: the ends of %+v", brief(l), level, e)
			}
			add(&separate, set[e])
			add(&together, !set[e])
		}
		for _, v := range r.vertices {
			if r.isBorderVertex(v) && in(v) {
				t.Fatalf("Seal of %s, level %d: %v is inside", brief(l), level, v)
			}
		}
	})
	if min(separate, together) < 5000 {
		t.Errorf("edges of the sets: %d, others: %d", separate, together)
	}
}

// P7.4: the edges of the set make no further patches, and the same field: it is that
// of the vertices, but for those at the border.
func TestP7_4Again(t *testing.T) {
	forLists(743, [5]int{0, 50, 200, 200, 0}, func(g *generator, l []api.Edge, level int) {
		set := separated(t, l, level)
		if slices.ContainsFunc(keys(set), refGridOf(level).isAtBorder) {
			return
		}
		field, _ := seal.Seal(l, level)
		checkSeal(t, keys(set), level, field, nil)
	})
}

// P7.5: fields whose border is outside are returned for the edges whose ends differ.
func TestP7_5Fields(t *testing.T) {
	g := generator(751)
	inside := 0
	for level, rounds := range []int{0, 5, 100, 100, 30, 6, 2} {
		for range rounds {
			field := g.field(level)
			inside += len(insideOf(field))
			checkOdd(t, outwards(field), level, nil)
			checkSeal(t, outwards(field), level, field, nil)
			checkSeal(t, shuffled(&g, outwards(field)), level, field, nil)
		}
	}
	if inside < 10000 {
		t.Errorf("inside vertices: %d", inside)
	}
}

// P7.5: with one edge taken away, or added, there is one patch with one edge, and the
// same field: for all edges of small levels that do not lie at the border.
func TestP7_5OneEdge(t *testing.T) {
	g := generator(752)
	added, takenAway := 0, 0
	for level, rounds := range []int{0, 4, 12, 6, 1} {
		for range rounds {
			field := g.field(level)
			l := outwards(field)
			for _, e := range refGridOf(level).innerEdges() {
				checkOdd(t, append(l, e), level, seal.Odd([]api.Edge{e}, level))
				checkSeal(t, append(l, e), level, field, []api.Patch{onePatch(e)})
				if i := slices.Index(l, e); i >= 0 {
					checkSeal(t, slices.Delete(slices.Clone(l), i, i+1), level, field, []api.Patch{onePatch(e)})
					takenAway++
				} else {
					added++
				}
			}
		}
	}
	if min(added, takenAway) < 500 {
		t.Errorf("edges: %d added, %d taken away", added, takenAway)
	}
}

// P7.5: with more edges taken away, or added: those without a common cell have a
// patch each, and the same field.
func TestP7_5EdgesApart(t *testing.T) {
	g := generator(753)
	for _, level := range []int{2, 3, 4, 5} {
		for range 10 {
			field := g.field(level)
			var apart []api.Edge
			n := cells(level)
			for k := range n / 2 * (n / 2) * (n / 2) {
				x, y, z := k%(n/2), k/(n/2)%(n/2), k/(n/2)/(n/2)
				if g.below(2) == 0 {
					apart = append(apart, edge(g.below(3), 1+2*x, 1+2*y, 1+2*z))
				}
			}
			var want []api.Patch
			for _, e := range apart {
				want = append(want, onePatch(e))
			}
			slices.SortFunc(want, func(p, q api.Patch) int { return compareFaces(p.Least, q.Least) })
			checkSeal(t, shuffled(&g, append(outwards(field), apart...)), level, field, want)
		}
	}
}

// P7.5: with any edges taken away or added, what the reference says: often another field.
func TestP7_5MoreEdges(t *testing.T) {
	g := generator(754)
	same, others := 0, 0
	for _, level := range []int{2, 3} {
		for range 300 {
			field := g.field(level)
			l := append(g.without(outwards(field), g.below(12)), g.clump(level, g.below(12))...)
			s := check(t, l, level)
			add(&same, len(s.patches) > 1 && sameField(s.field, field))
			add(&others, !sameField(s.field, field))
		}
	}
	if min(same, others) < 30 {
		t.Errorf("the same fields: %d, others: %d", same, others)
	}
}

// P7.5: a box without one of its sides is closed where it was.
func TestP7_5BoxWithoutSide(t *testing.T) {
	for axis := range 3 {
		for side, x := range []int{5, 9} {
			field := fieldOf(4, func(v vertex) bool { return inSquare(v, axis, 5, 9) && 6 <= v[axis] && v[axis] <= 9 })
			isOfSide := func(e api.Edge) bool { return e.Axis == axis && start(e)[axis] == x }
			l := slices.DeleteFunc(outwards(field), isOfSide)
			if len(l) != len(outwards(field))-25 {
				t.Fatalf("%d edges", len(l))
			}
			_, patches := seal.Seal(l, 4)
			if len(patches) != 1 || patches[0].Edges != 25 || patches[0].Dir/2 == axis {
				t.Errorf("Seal of a box without the side %d, %d: %+v", axis, side, patches)
			}
			checkSeal(t, l, 4, field, patches)
			check(t, l, 4)
		}
	}
}

// P7.5: the order of the edges has no effect, and two equal ones cancel each other.
func TestP7_5OrderAndPairs(t *testing.T) {
	forLists(755, [5]int{0, 30, 60, 60, 10}, func(g *generator, l []api.Edge, level int) {
		reversed := slices.Clone(l)
		slices.Reverse(reversed)
		checkSame(t, l, reversed, level)
		checkSame(t, l, shuffled(g, l), level)
		pairs := append(g.clump(level, 9), l[:len(l)/2]...)
		checkSame(t, l, shuffled(g, slices.Concat(pairs, l, pairs)), level)
		checkSame(t, l, slices.Concat(l, l, l), level)
		checkSame(t, nil, slices.Concat(l, reversed), level)
	})
}
