package seal_test

import (
	"math"
	"slices"
	"testing"

	"lithophane/api"
	"lithophane/seal"
)

// lists are lists of all kinds.
func lists(level int) [][]api.Edge {
	g := generator(71)
	all := [][]api.Edge{nil, {}, star(vertex{1, 1, 1}), star(vertex{1, 1, 1})[1:], strange(level), {edge(2, 1, 1, 0)}}
	for range 12 {
		all = append(all, g.edges(level))
	}
	return all
}

// R1: nil and empty lists are the same, at all levels and at none.
func TestR1NilAndEmpty(t *testing.T) {
	for level := -1; level <= api.MaxLevel+1; level++ {
		field := api.Field{}
		if 1 <= level && level <= api.MaxLevel {
			field = fieldOfVertices(level)
		}
		for _, l := range [][]api.Edge{nil, {}, star(vertex{1, 1, 1})[:0]} {
			checkOdd(t, l, level, nil)
			checkSeal(t, l, level, field, nil)
		}
	}
}

// R3: arguments, and what lies behind their ends, are unchanged after a call.
func TestR3Arguments(t *testing.T) {
	for _, level := range []int{0, 1, 3, 5, 9} {
		for _, l := range lists(max(1, min(level, 5))) {
			memory := append(slices.Clone(l), edge(0, 1, 1, 1), edge(7, 7, 7, 7), api.Edge{})
			before := slices.Clone(memory)
			seal.Odd(memory[:len(l)], level)
			seal.Seal(memory[:len(l)], level)
			if !slices.Equal(memory, before) {
				t.Fatalf("level %d: the argument is changed: %s", level, brief(l))
			}
		}
	}
}

// results are those of both functions, cloned.
type results struct {
	odd     []api.Face
	field   api.Field
	patches []api.Patch
}

// resultsOf returns the results, and overwrites what the functions returned, with
// what lies behind the ends.
func resultsOf(l []api.Edge, level int) results {
	odd := seal.Odd(l, level)
	field, patches := seal.Seal(l, level)
	r := results{slices.Clone(odd), api.Field{Level: field.Level, In: slices.Clone(field.In)}, slices.Clone(patches)}
	spoil(odd, face(-7, -7, -7, -7))
	spoil(patches, patch(face(-7, -7, -7, -7), -7, -7))
	spoil(field.In, true)
	return r
}

func spoil[E any](l []E, with E) {
	l = l[:cap(l)]
	for i := range l {
		l[i] = with
	}
}

func (r results) equal(s results) bool {
	return slices.Equal(r.odd, s.odd) && slices.Equal(r.patches, s.patches) && sameField(r.field, s.field)
}

// R3, R4: the same call returns the same again, whatever is done with earlier
// results, and with calls in between.
func TestR4SameAgain(t *testing.T) {
	for _, level := range []int{1, 3, 5} {
		all := lists(level)
		var first []results
		for _, l := range all {
			first = append(first, resultsOf(l, level))
		}
		for range 5 {
			for i, l := range all {
				if again := resultsOf(l, level); !again.equal(first[i]) {
					t.Fatalf("Odd and Seal of %s, level %d: %s, then %s", brief(l), level, brief(first[i]), brief(again))
				}
			}
		}
	}
}

// P1, R5: all calls end for arguments of all sizes, and edges that are not given have
// no effect.
func TestP1AllArguments(t *testing.T) {
	g := generator(72)
	sizes := []int{math.MinInt, math.MinInt + 1, -1 << 43, -257, -256, -2, -1, 0, 1, 2, 3, 4, 255, 256, 257, 1 << 20, 1 << 43, math.MaxInt - 1, math.MaxInt}
	given := 0
	for i := range 4000 {
		var l []api.Edge
		for range g.below(30) {
			l = append(l, edge(g.below(5)-1, pick(&g, sizes), pick(&g, sizes), pick(&g, sizes)))
		}
		for range g.below(4) {
			l = append(l, g.scattered(2, 1)...)
		}
		if i%2 == 0 {
			level := pick(&g, sizes[:7])
			checkOdd(t, l, level, nil)
			checkSeal(t, l, level, api.Field{}, nil)
			continue
		}
		s := check(t, l, 1+g.below(3))
		given += len(s.given)
	}
	if given < 500 {
		t.Errorf("given edges: %d", given)
	}
}
