package quadric_test

import (
	"math"
	"testing"

	"lithophane/api"
	"lithophane/wide"
)

// P10.3: each coefficient by itself, at points whose coordinates differ, of either sign.
func TestP10_3Coefficients(t *testing.T) {
	for _, x := range []struct {
		p    api.Point
		want [10]int
	}{
		{at(2, 3, 5), [10]int{4, 6, 10, 2, 9, 15, 3, 25, 5, 1}},
		{at(-2, 3, 5), [10]int{4, -6, -10, -2, 9, 15, 3, 25, 5, 1}},
		{at(2, -3, 5), [10]int{4, -6, 10, 2, 9, -15, -3, 25, 5, 1}},
		{at(2, 3, -5), [10]int{4, 6, -10, 2, 9, -15, 3, 25, -5, 1}},
		{at(-2, -3, -5), [10]int{4, 6, 10, -2, 9, 15, -3, 25, -5, 1}},
		{at(0, 0, 0), [10]int{9: 1}}, {at(7, 0, 0), [10]int{0: 49, 3: 7, 9: 1}},
		{at(0, 7, 0), [10]int{4: 49, 6: 7, 9: 1}}, {at(0, 0, 7), [10]int{7: 49, 8: 7, 9: 1}},
	} {
		sum := 0
		for k, value := range x.want {
			for _, c := range []int{1, -1, 1000003, -77} {
				checkAt(t, only(k, wide.From(c)), x.p, wide.From(c*value))
			}
			sum += (1 << (8 * (k % 4))) * value
		}
		weights := withInts([10]int{1, 1 << 8, 1 << 16, 1 << 24, 1, 1 << 8, 1 << 16, 1 << 24, 1, 1 << 8})
		checkAt(t, weights, x.p, wide.From(sum))
	}
}

// P10.3: values of the quadric of zeros are 0, the same as everywhere, also if its zeros
// have other forms.
func TestP10_3Zeros(t *testing.T) {
	forSpaces(107, 100, func(g *generator, space []int) {
		checkAt(t, api.Quadric{}, g.point(space), api.Wide{})
		checkAt(t, g.uncanonical(api.Quadric{}), g.point(space), api.Wide{})
	})
}

// P10.3: parts that cancel leave the same 0 as everywhere.
func TestP10_3Cancelled(t *testing.T) {
	for _, m := range []int{0, 1, -1, 5, api.MaxCoord, math.MaxInt, math.MinInt} {
		for k, q := range []api.Quadric{
			withInts([10]int{0: 1, 4: -1}), withInts([10]int{0: -1, 1: 1}), withInts([10]int{1: 1, 2: -1}), withInts([10]int{2: 1, 7: -1}),
			withInts([10]int{3: 1, 6: -1}), withInts([10]int{5: 1, 0: -1}), withInts([10]int{8: -1, 3: 1}),
		} {
			checkAt(t, q, at(m, m, m), api.Wide{})
			if k == 0 && m != math.MinInt {
				checkAt(t, q, at(m, -m, 0), api.Wide{})
			}
		}
		checkAt(t, api.Quadric{3: wide.From(1), 9: wide.Neg(wide.From(m))}, at(m, 8, 9), api.Wide{})
	}
}

// P10.3: great coordinates with great coefficients.
func TestP10_3Great(t *testing.T) {
	ones := withInts([10]int{1, 1, 1, 1, 1, 1, 1, 1, 1, 1})
	for _, x := range []struct {
		p    api.Point
		want string
	}{
		{at(math.MaxInt, math.MaxInt, math.MaxInt), "510423550381407695112051562815959334916"}, // 6 mm + 3 m + 1
		{at(math.MinInt, math.MinInt, math.MinInt), "510423550381407695167391795037087989761"},
		{at(math.MinInt, 0, math.MaxInt), "85070591730234615856620279821087277057"}, // mm - m n + nn - m + n + 1, where n = m - 1
	} {
		want, _ := wide.Parse(x.want)
		if reference := refAt(ones, x.p); reference != want {
			t.Fatalf("reference at %v: %s", x.p, brief(reference))
		}
		checkAt(t, ones, x.p, want)
	}
	g := generator(108)
	for range 2000 {
		q := g.quadric()
		for k := range q {
			q[k] = g.wide(200)
		}
		p := g.point([]int{math.MinInt, math.MinInt + 1, math.MaxInt, 1 << 62, -1 << 40, api.MaxCoord})
		checkAt(t, q, p, refAt(q, p))
	}
}

// P10.3: the forms of the coefficients make no difference.
func TestP10_3OtherForms(t *testing.T) {
	forQuadrics(109, 1000, func(g *generator, q api.Quadric) {
		for _, space := range spaces() {
			p := g.point(space)
			checkAt(t, g.uncanonical(q), p, refAt(q, p))
		}
		constant := api.Quadric{9: g.wide(9)}
		checkAt(t, g.uncanonical(constant), at(0, 0, 0), constant[9])
	})
}

// P10.3: many values, of either sign.
func TestP10_3At(t *testing.T) {
	signs := map[int]int{}
	forSpaces(110, 2000, func(g *generator, space []int) {
		q, p := g.quadric(), g.point(space)
		want := refAt(q, p)
		checkAt(t, q, p, want)
		signs[wide.Sign(want)]++
	})
	if min(signs[-1], signs[0], signs[1]) < 1000 {
		t.Errorf("signs: %v", signs)
	}
}

// P10.3: the third example of the document.
func TestP10_3Example(t *testing.T) {
	checkAt(t, withInts([10]int{7: 36, 8: -144, 9: 144}), at(5, 5, 3), wide.From(36))
}
