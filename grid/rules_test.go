package grid_test

import (
	"math"
	"slices"
	"testing"

	"lithophane/api"
	"lithophane/grid"
)

// lists are lists of all kinds.
func lists() [][]api.Tri {
	g := generator(71)
	all := [][]api.Tri{nil, {}, {first()}, {first(), first()}, notAdmitted(), flat(), append(append(flat(), first()), notAdmitted()...), slices.Concat(walls(0), walls(1), walls(2))}
	for _, level := range levels() {
		all = append(all, g.triangles(level, 9), g.surface(level))
	}
	return all
}

// R1: nil and empty lists are the same, at all levels and at none.
func TestR1NilAndEmpty(t *testing.T) {
	for level := -1; level <= api.MaxLevel+1; level++ {
		for _, l := range [][]api.Tri{nil, {}, walls(0)[:0]} {
			checkCross(t, l, level, nil)
		}
	}
}

// R3: arguments, and what lies behind their ends, are unchanged after a call.
func TestR3Arguments(t *testing.T) {
	for _, l := range lists() {
		memory := append(slices.Clone(l), first(), turned(first()), api.Tri{})
		before := slices.Clone(memory)
		for _, level := range []int{0, 1, 5, 9} {
			grid.Cross(memory[:len(l)], level)
			for i := range l {
				grid.Crosses(memory[i], firstEdge(), level)
			}
		}
		if !slices.Equal(memory, before) {
			t.Fatalf("Cross of %s: the argument is changed", brief(l))
		}
	}
}

// R3, R4: the same call returns the same again, whatever is done with earlier
// results, and with calls in between.
func TestR4SameAgain(t *testing.T) {
	for _, level := range []int{1, 3, 6} {
		var results [][]api.Edge
		for _, l := range lists() {
			result := grid.Cross(l, level)
			results = append(results, slices.Clone(result))
			spoil(result)
		}
		for range 3 {
			for i, l := range lists() {
				result := grid.Cross(l, level)
				if !slices.Equal(result, results[i]) {
					t.Fatalf("Cross of %s, level %d: %s, then %s", brief(l), level, brief(results[i]), brief(result))
				}
				spoil(result)
			}
		}
	}
}

// spoil overwrites a result, and what lies behind its end.
func spoil(l []api.Edge) {
	l = l[:cap(l)]
	for i := range l {
		l[i] = edge(-7, -7, -7, -7)
	}
}

// R4: Crosses says the same again, for all edges.
func TestR4CrossesSameAgain(t *testing.T) {
	for _, l := range lists() {
		for _, s := range l {
			for _, e := range allEdges(1) {
				if grid.Crosses(s, e, 1) != grid.Crosses(s, e, 1) {
					t.Fatalf("Crosses of %v, %+v", s, e)
				}
			}
		}
	}
}

// P1, R5: all calls end for arguments of all sizes, and those that are not permitted
// have no edges.
func TestP1AllArguments(t *testing.T) {
	g := generator(72)
	sizes := []int{math.MinInt, math.MinInt + 1, math.MinInt + half, -1 << 43, -256, -2, -1, 0, 1, 2, 255, 256, half, most, most + 1, 1 << 43, math.MaxInt - 1, math.MaxInt}
	var admitted int
	for range 20000 {
		level, e := pick(&g, sizes), edge(g.below(5)-1, pick(&g, sizes), pick(&g, sizes), pick(&g, sizes))
		if g.below(3) > 0 {
			level = 1 + g.below(api.MaxLevel)
		}
		var s api.Tri
		for i := range s {
			s[i] = at(pick(&g, sizes), pick(&g, sizes), pick(&g, sizes))
		}
		if g.below(4) > 0 {
			s = g.nearby(8)
		}
		want := refCrosses(s, e, level)
		if grid.Crosses(s, e, level) != want {
			t.Fatalf("Crosses of %v, %+v, level %d: %v", s, e, level, !want)
		}
		if refTriangleOf(s).isAdmitted {
			admitted++
		} else {
			checkCross(t, []api.Tri{s}, level, nil)
		}
	}
	if admitted < 10000 {
		t.Errorf("triangles that are admitted: %d", admitted)
	}
}
