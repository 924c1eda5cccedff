package collapse_test

import (
	"math"
	"slices"
	"testing"

	"lithophane/api"
	"lithophane/collapse"
	"lithophane/mesh"
)

// results are those of all functions for some arguments; nil slices and empty ones are
// made equal.
type results struct {
	allowed        bool
	collapsed, all []api.Tri
	moves          []api.Move
}

func resultsFor(l []api.Tri, u, v api.Point, want int) results {
	all, moves := collapse.Simplify(l, want)
	return results{collapse.Allowed(l, u, v), collapse.Collapse(l, u, v), all, moves}.copied()
}

// copied returns the results in memory of their own.
func (r results) copied() results {
	return results{r.allowed, append([]api.Tri{}, r.collapsed...), append([]api.Tri{}, r.all...), append([]api.Move{}, r.moves...)}
}

func (r results) equal(other results) bool {
	return r.allowed == other.allowed && slices.Equal(r.collapsed, other.collapsed) && slices.Equal(r.all, other.all) && slices.Equal(r.moves, other.moves)
}

// R1: nil and empty lists are the same.
func TestR1NilAndEmpty(t *testing.T) {
	for _, l := range [][]api.Tri{nil, {}, octahedron(3)[:0]} {
		for _, p := range []api.Point{{}, at(3, 0, 0), at(math.MinInt, 1, math.MaxInt)} {
			for _, want := range []int{math.MinInt, -1, 0, 1, math.MaxInt} {
				if !resultsFor(l, p, at(0, 3, 0), want).equal(results{}) {
					t.Errorf("results for an empty list: %v", resultsFor(l, p, at(0, 3, 0), want))
				}
			}
		}
	}
}

// forCalls calls check with lists of all kinds and with corners, count times for each
// shape.
func forCalls(seed, count int, check func(l []api.Tri, u, v api.Point, want int)) {
	faults := refused()
	forShapes(seed, count, func(g *generator, name string, l []api.Tri) {
		switch g.below(6) {
		case 0:
			l = append(l, faults[pick(g, []api.Errno{api.ErrCorner, api.ErrEdge, api.ErrPinch})]...)
		case 1:
			l = append(l, l...)
		}
		if len(l) > 0 {
			tri, k := pick(g, l), g.below(3)
			check(l, tri[k], tri[(k+g.below(3))%3], len(l)/2+g.between(len(l)/2))
		}
	})
}

// R3: a list, and what lies behind its end, is unchanged after a call, and nothing behind
// its end counts.
func TestR3Arguments(t *testing.T) {
	forCalls(61, 4, func(l []api.Tri, u, v api.Point, want int) {
		memory := append(slices.Clone(l), api.Tri{u, v, at(5, 5, 5)}, api.Tri{}, l[0])
		before := slices.Clone(memory)
		expected := resultsFor(slices.Clone(l), u, v, want)
		got := resultsFor(memory[:len(l)], u, v, want)
		if !slices.Equal(memory, before) {
			t.Fatalf("a call changes %s", brief(before))
		}
		if !got.equal(expected) {
			t.Fatalf("results for %s: %s; want %s", brief(l), brief(got), brief(expected))
		}
	})
}

// R3: results share no memory with arguments, nor with results of other calls.
func TestR3Results(t *testing.T) {
	forCalls(62, 4, func(l []api.Tri, u, v api.Point, want int) {
		argument := slices.Clone(l)
		before := resultsFor(argument, u, v, want)
		collapsed := collapse.Collapse(argument, u, v)
		all, moves := collapse.Simplify(argument, want)
		spoil(collapsed)
		if !slices.Equal(all, before.all) || !slices.Equal(moves, before.moves) {
			t.Fatalf("results for %s share memory", brief(l))
		}
		spoil(all)
		spoil(moves)
		if !slices.Equal(argument, l) {
			t.Fatalf("a result shares memory with %s", brief(l))
		}
		if after := resultsFor(argument, u, v, want); !after.equal(before) {
			t.Fatalf("results for %s: %s, then %s", brief(l), brief(before), brief(after))
		}
	})
}

// R3: a result does not change with the list afterwards.
func TestR3LaterChanges(t *testing.T) {
	forCalls(63, 4, func(l []api.Tri, u, v api.Point, want int) {
		argument := slices.Clone(l)
		collapsed := collapse.Collapse(argument, u, v)
		all, moves := collapse.Simplify(argument, want)
		got := results{collapse.Allowed(argument, u, v), collapsed, all, moves}
		before := got.copied()
		spoil(argument)
		if !got.equal(before) {
			t.Fatalf("results for %s change with the list", brief(l))
		}
	})
}

// spoil overwrites all elements, and those that fit behind them.
func spoil[T any](l []T) { clear(l[:cap(l)]) }

// R4: the same calls return the same again, in any order.
func TestR4SameAgain(t *testing.T) {
	var calls []func() results
	var first []results
	forCalls(64, 3, func(l []api.Tri, u, v api.Point, want int) {
		call := func() results { return resultsFor(slices.Clone(l), u, v, want) }
		calls, first = append(calls, call), append(first, call())
	})
	for i := len(calls) - 1; i >= 0; i-- {
		if again := calls[i](); !again.equal(first[i]) {
			t.Fatalf("call %d: %s; before: %s", i, brief(again), brief(first[i]))
		}
	}
}

// P1, R5: all calls end, for lists that are no surfaces and for coordinates of all sizes.
func TestP1AnyArguments(t *testing.T) {
	g := generator(65)
	wants := []int{math.MinInt, -1, 0, 1, 2, 5, math.MaxInt}
	for _, space := range spaces() {
		for range 150 {
			var corners []api.Point
			for range 3 + g.below(5) {
				corners = append(corners, at(pick(&g, space), pick(&g, space), pick(&g, space)))
			}
			var l []api.Tri
			for range g.below(12) {
				l = append(l, api.Tri{pick(&g, corners), pick(&g, corners), pick(&g, corners)})
			}
			u, v, want := pick(&g, corners), at(pick(&g, space), 0, pick(&g, space)), pick(&g, wants)
			list, moves := refSimplify(l, want)
			checkSimplify(t, l, want, list, moves)
			checkCollapse(t, l, u, v, refCollapse(l, u, v))
			for _, v := range append(mesh.Corners(l), v) {
				checkAllowed(t, l, u, v, len(refListOf(l).broken(u, v)) == 0)
				checkAllowed(t, l, v, u, len(refListOf(l).broken(v, u)) == 0)
			}
		}
	}
}
