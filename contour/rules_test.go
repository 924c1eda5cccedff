package contour_test

import (
	"math"
	"slices"
	"testing"

	"lithophane/api"
	"lithophane/contour"
)

// fields are of all sorts, valid and not.
func fields() []api.Field {
	all := []api.Field{
		{}, {Level: 1}, {Level: 9}, {In: []bool{true}}, fieldOfVertices(1), fieldOfVertices(1, vertex{1, 1, 1}),
		fieldOfVertices(2, vertex{1, 1, 1}, vertex{2, 2, 1}), fieldOfVertices(3, vertex{7, 7, 7}, vertex{8, 7, 7}),
		{Level: 1, In: make([]bool, 26)}, {Level: -3, In: make([]bool, 27)},
	}
	forFields(71, []int{0, 1, 20, 12, 6, 2}, func(g *generator, f api.Field) { all = append(all, f) })
	return all
}

// R1: nil and empty lists of vertices are the same, at all levels and at none.
func TestR1NilAndEmpty(t *testing.T) {
	for level := -1; level <= api.MaxLevel+1; level++ {
		for _, in := range [][]bool{nil, {}, make([]bool, 27)[:0]} {
			check(t, api.Field{Level: level, In: in}, nil)
		}
	}
}

// R3: the argument, and what lies behind its end, are unchanged after a call.
func TestR3Argument(t *testing.T) {
	for _, f := range fields() {
		for _, behind := range [][]bool{{false, false, true}, {true, true, false}} {
			memory := append(slices.Clone(f.In), behind...)
			before := slices.Clone(memory)
			got := contour.Contour(api.Field{Level: f.Level, In: memory[:len(f.In)]})
			if !slices.Equal(memory, before) {
				t.Fatalf("Contour of %s: the argument is changed", briefField(f))
			}
			if !slices.Equal(got, contour.Contour(f)) {
				t.Fatalf("Contour of %s: what lies behind its end has an effect", briefField(f))
			}
		}
	}
}

// R3, R4: the same call returns the same again, whatever is done with earlier results,
// and with calls in between.
func TestR4SameAgain(t *testing.T) {
	all := fields()
	var first [][]api.Tri
	for _, f := range all {
		l := contour.Contour(f)
		first = append(first, slices.Clone(l))
		spoil(l)
	}
	for range 4 {
		for i, f := range all {
			l := contour.Contour(f)
			if !slices.Equal(l, first[i]) {
				t.Fatalf("Contour of %s: %s, then %s", briefField(f), brief(first[i]), brief(l))
			}
			spoil(l)
		}
	}
}

// spoil overwrites a result, and what lies behind its end.
func spoil(l []api.Tri) {
	l = l[:cap(l)]
	for i := range l {
		l[i] = api.Tri{at(-7, -7, -7), at(-7, -7, -7), at(-7, -7, -7)}
	}
}

// P1, R5: all calls end, for fields of all levels, sizes and contents.
func TestP1AllFields(t *testing.T) {
	g := generator(72)
	sizes := []int{math.MinInt, math.MinInt + 1, -1 << 43, -257, -9, -8, -2, -1, 0, 9, 10, 63, 64, 255, 256, 257, 1 << 43, math.MaxInt - 1, math.MaxInt}
	valid := 0
	for range 2000 {
		level := 1 + g.below(3)
		row := cells(level) + 1
		in := make([]bool, row*row*row+(g.below(3)-1)*g.below(2)*g.below(row))
		density := g.below(9)
		for i := range in {
			in[i] = g.below(9) < density
		}
		f := api.Field{Level: level, In: in}
		if g.below(4) == 0 {
			f.Level = sizes[g.below(len(sizes))]
		}
		if g.below(2) == 0 && refIsLevelOf(f) {
			f = fieldOf(f.Level, func(v vertex) bool { return isInside(f, v) })
		}
		if refIsValid(f) {
			checkClosed(t, f)
			valid++
		} else {
			check(t, f, nil)
		}
	}
	if valid < 500 || valid > 1500 {
		t.Errorf("%d fields are valid", valid)
	}
}

// refIsLevelOf reports whether the field has the vertices of its level.
func refIsLevelOf(f api.Field) bool {
	if f.Level < 1 || f.Level > 8 {
		return false
	}
	row := cells(f.Level) + 1
	return len(f.In) == row*row*row
}
