package quadric_test

import (
	"math"
	"slices"
	"strings"
	"testing"

	"lithophane/api"
	"lithophane/quadric"
	"lithophane/wide"
)

// R1: nil and empty lists are the same.
func TestR1NilAndEmpty(t *testing.T) {
	for _, l := range [][]api.Tri{nil, {}, make([]api.Tri, 3)[:0]} {
		checkAround(t, l, at(0, 0, 0), api.Quadric{})
		checkAround(t, l, at(math.MinInt, 1, math.MaxInt), api.Quadric{})
	}
}

// R3: a list, and what lies behind its end, is unchanged after a call, and nothing behind
// its end counts.
func TestR3Arguments(t *testing.T) {
	forSpaces(141, 50, func(g *generator, space []int) {
		memory := append(g.tris(space), leaning(), leaning(), api.Tri{})
		l := memory[:len(memory)-3]
		before := slices.Clone(memory)
		for _, p := range append([]api.Point{{}, at(3, 0, 0)}, before[0][:]...) {
			checkAround(t, l, p, refAround(slices.Clone(l), p))
			if !slices.Equal(memory, before) {
				t.Fatalf("Around(%s, %v) changes the list", brief(before), p)
			}
		}
	})
}

// R3: quadrics and triangles are values: changing an argument or a result after a call
// changes no other one.
func TestR3Values(t *testing.T) {
	forQuadrics(142, 300, func(g *generator, a api.Quadric) {
		b, p := g.quadric(), g.point([]int{-5, 7, 1 << 40})
		first, second := a, b
		sum, value := quadric.Sum(first, second), quadric.At(first, p)
		if first != a || second != b {
			t.Fatalf("Sum or At changes %s or %s", text(a), text(b))
		}
		wantSum, wantValue := sum, value
		first[g.below(10)], second[g.below(10)] = wide.From(-9), wide.From(99)
		if sum != wantSum || value != wantValue {
			t.Fatalf("a result for %s and %s changes with an argument", text(a), text(b))
		}
		sum[g.below(10)], value.Neg = wide.From(123456), !value.Neg
		checkSum(t, a, b, wantSum)
		checkAt(t, a, p, wantValue)
	})
	forSpaces(143, 50, func(g *generator, space []int) {
		l := append(g.tris(space), g.tri(space))
		tri := l[0]
		p := tri[2]
		of, around := quadric.Of(l[0]), quadric.Around(l, p)
		wantOf, wantAround, kept := of, around, slices.Clone(l)
		for i := range l {
			l[i] = leaning()
		}
		if of != wantOf || around != wantAround {
			t.Fatalf("a result for %s changes with the list", brief(kept))
		}
		of[g.below(10)], around[g.below(10)] = wide.From(5), wide.From(6)
		checkOf(t, tri, wantOf)
		checkAround(t, kept, p, wantAround)
	})
}

// R4: the same calls return the same again, in any order.
func TestR4SameAgain(t *testing.T) {
	type call struct {
		l    []api.Tri
		p    api.Point
		a, b api.Quadric
	}
	type results struct {
		of, sum, around api.Quadric
		value           api.Wide
	}
	run := func(c call) results {
		return results{quadric.Of(c.l[0]), quadric.Sum(c.a, c.b), quadric.Around(c.l, c.p), quadric.At(c.a, c.p)}
	}
	var calls []call
	forSpaces(144, 30, func(g *generator, space []int) {
		l := append(g.tris(space), g.tri(space))
		calls = append(calls, call{l, l[g.below(len(l))][g.below(3)], g.quadric(), g.quadric()})
	})
	var first []results
	for _, c := range calls {
		first = append(first, run(c))
	}
	for i := len(calls) - 1; i >= 0; i-- {
		if again := run(calls[i]); again != first[i] {
			t.Fatalf("call %d: %s; before: %s", i, brief(again), brief(first[i]))
		}
	}
}

// P1, R5: all calls end, for coordinates of all sizes and for coefficients with any bytes.
func TestP1AnyArguments(t *testing.T) {
	g := generator(145)
	sizes := spaces()[len(spaces())-1]
	for range 5000 {
		l := g.tris(sizes)
		p := g.point(sizes)
		var a, b api.Quadric
		for k := range a {
			a[k] = api.Wide{Neg: g.below(2) == 0, Mag: strings.Repeat(string([]byte{byte(g.below(3)), byte(g.below(256))}), g.below(9))}
			b[k] = api.Wide{Neg: g.below(2) == 0, Mag: strings.Repeat("\x00", g.below(3)) + strings.Repeat("\xff", g.below(3))}
		}
		checkSum(t, a, b, refSum(a, b))
		checkAt(t, a, p, refAt(a, p))
		checkAround(t, l, p, refAround(l, p))
	}
}
