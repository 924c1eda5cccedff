package quadric_test

import (
	"math"
	"testing"

	"lithophane/api"
	"lithophane/quadric"
	"lithophane/wide"
)

// negative returns q with all coefficients negated.
func negative(q api.Quadric) api.Quadric {
	for k := range q {
		q[k] = wide.Neg(q[k])
	}
	return q
}

// P10.2: each coefficient is added to the one with the same number.
func TestP10_2Coefficients(t *testing.T) {
	first := withInts([10]int{1, 2, 4, 8, 16, 32, 64, 128, 256, 512})
	second := withInts([10]int{-3000, 5000, -7000, 9000, 11000, -13000, 17000, 19000, -23000, 29000})
	checkSum(t, first, second, withInts([10]int{-2999, 5002, -6996, 9008, 11016, -12968, 17064, 19128, -22744, 29512}))
	for i := range 10 {
		for j := range 10 {
			want := only(i, wide.From(700))
			want[j] = wide.From(-35)
			if i == j {
				want[i] = wide.From(665)
			}
			checkSum(t, only(i, wide.From(700)), only(j, wide.From(-35)), want)
		}
	}
}

// P10.2: numbers do not wrap around.
func TestP10_2Exact(t *testing.T) {
	for _, x := range []struct {
		a, b int
		want string
	}{
		{math.MaxInt, 1, "9223372036854775808"}, {math.MaxInt, math.MaxInt, "18446744073709551614"},
		{math.MinInt, -1, "-9223372036854775809"}, {math.MinInt, math.MinInt, "-18446744073709551616"}, {math.MinInt, math.MaxInt, "-1"},
	} {
		for k := range 10 {
			a, b := only(k, wide.From(x.a)), only(k, wide.From(x.b))
			want, _ := wide.Parse(x.want)
			checkSum(t, a, b, only(k, want))
			checkSum(t, b, a, only(k, want))
		}
	}
}

// P10.2: the quadric of zeros changes nothing, on either side; a sum of both of them is it.
func TestP10_2Zeros(t *testing.T) {
	checkSum(t, api.Quadric{}, api.Quadric{}, api.Quadric{})
	forQuadrics(102, 1000, func(g *generator, q api.Quadric) {
		checkSum(t, q, api.Quadric{}, q)
		checkSum(t, api.Quadric{}, q, q)
	})
}

// P10.2: sums that cancel are the same 0 as everywhere, all of them or only some.
func TestP10_2Cancelled(t *testing.T) {
	forQuadrics(103, 1000, func(g *generator, q api.Quadric) {
		checkSum(t, q, negative(q), api.Quadric{})
		checkSum(t, g.uncanonical(negative(q)), q, api.Quadric{})
		other, kept := negative(q), g.below(10)
		want := only(kept, wide.From(-5))
		other[kept] = wide.Sub(other[kept], wide.From(5))
		checkSum(t, q, other, want)
		checkSum(t, other, q, want)
	})
}

// P10.2: results are canonical, whatever forms the coefficients have, those of zeros among
// them, and also if nothing else is added.
func TestP10_2OtherForms(t *testing.T) {
	forQuadrics(104, 1000, func(g *generator, a api.Quadric) {
		b := g.quadric()
		want := quadric.Sum(a, b)
		checkSum(t, g.uncanonical(a), g.uncanonical(b), want)
		checkSum(t, a, g.uncanonical(b), want)
		checkSum(t, g.uncanonical(a), b, want)
		checkSum(t, api.Quadric{}, g.uncanonical(a), a)
		checkSum(t, g.uncanonical(a), api.Quadric{}, a)
		checkSum(t, g.uncanonical(api.Quadric{}), g.uncanonical(a), a)
		checkSum(t, g.uncanonical(api.Quadric{}), api.Quadric{}, api.Quadric{})
	})
}

// P10.2: many sums.
func TestP10_2Sum(t *testing.T) {
	forQuadrics(105, 5000, func(g *generator, a api.Quadric) {
		b := g.quadric()
		checkSum(t, a, b, refSum(a, b))
	})
	forSpaces(106, 100, func(g *generator, space []int) {
		a, b := refOf(g.tri(space)), refOf(g.tri(space))
		checkSum(t, a, b, refSum(a, b))
	})
}
