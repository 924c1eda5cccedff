package wide_test

import (
	"math/big"
	"testing"

	"lithophane/api"
	"lithophane/wide"
)

// fraction returns n/d, whatever they are.
func fraction(n, d int) api.Frac { return api.Frac{N: wide.From(n), D: wide.From(d)} }

// fractions returns fractions in lowest terms, others, and such whose D is negative or 0.
func fractions() []api.Frac {
	all := []api.Frac{{}, {N: wide.From(3)}, {D: wide.From(-1)}, {N: api.Wide{Neg: true}, D: wide.From(4)},
		{N: wide.From(-1), D: api.Wide{Neg: true, Mag: "\x00"}}, {N: api.Wide{Neg: true, Mag: "\x00\x02"}, D: api.Wide{Mag: "\x00\x00\x06"}}}
	for _, x := range [][2]int{{0, 1}, {0, 7}, {1, 1}, {-1, 1}, {1, 2}, {-1, 2}, {1, 3}, {2, 3}, {4, 6}, {-9, 3}, {3, -2}, {-3, -2},
		{5, 1 << 62}, {1<<63 - 1, 1<<63 - 2}} {
		all = append(all, fraction(x[0], x[1]))
	}
	few := fewSamples()
	for i := range few {
		all = append(all, api.Frac{N: few[i], D: few[(i+5)%len(few)]})
	}
	return all
}

// sameFrac fails unless got is the Frac in lowest terms with the value want.
func sameFrac(t *testing.T, call string, got api.Frac, want *big.Rat) {
	t.Helper()
	if got != fracOf(want) {
		t.Errorf("%s: %v/%v, want %v", call, bigOf(got.N), bigOf(got.D), want)
	}
}

// P1.8: Frac of all pairs; the denominator 0 has no fraction.
func TestP1_8Frac(t *testing.T) {
	forPairs(func(n, d api.Wide) {
		got, ok := wide.Frac(n, d)
		if bigOf(d).Sign() == 0 {
			if got != (api.Frac{}) || ok {
				t.Errorf("Frac(%v, 0): %v, %v", bigOf(n), got, ok)
			}
			return
		}
		sameFrac(t, "Frac", got, new(big.Rat).SetFrac(bigOf(n), bigOf(d)))
		if !ok {
			t.Errorf("Frac(%v, %v): false", bigOf(n), bigOf(d))
		}
	})
}

// P1.8: the signs of numerator and denominator.
func TestP1_8FracSigns(t *testing.T) {
	for _, x := range [][4]int{{4, -6, -2, 3}, {-4, -6, 2, 3}, {-4, 6, -2, 3}, {0, -6, 0, 1}, {0, 6, 0, 1}, {6, 3, 2, 1}, {-6, 3, -2, 1}} {
		if got, ok := wide.Frac(wide.From(x[0]), wide.From(x[1])); got != fraction(x[2], x[3]) || !ok {
			t.Errorf("Frac(%d, %d): %v/%v, %v", x[0], x[1], bigOf(got.N), bigOf(got.D), ok)
		}
	}
}

// P1.9: CmpFrac, AddFrac and MulFrac of all pairs, also of fractions that have no positive denominator.
func TestP1_9CmpAddMulFrac(t *testing.T) {
	all := fractions()
	for _, a := range all {
		for _, b := range all {
			x, y := ratOf(a), ratOf(b)
			if order := wide.CmpFrac(a, b); order != x.Cmp(y) {
				t.Errorf("CmpFrac(%v, %v): %d", x, y, order)
			}
			sameFrac(t, "AddFrac", wide.AddFrac(a, b), new(big.Rat).Add(x, y))
			sameFrac(t, "MulFrac", wide.MulFrac(a, b), new(big.Rat).Mul(x, y))
		}
	}
}

// P1.9: fractions whose D is negative or 0 are 0.
func TestP1_9FracWithoutValue(t *testing.T) {
	half := fraction(1, 2)
	for _, zero := range []api.Frac{{}, fraction(5, 0), fraction(5, -1), fraction(-5, -1), {N: wide.From(1), D: api.Wide{Neg: true}}} {
		if got := wide.AddFrac(zero, half); got != half {
			t.Errorf("AddFrac(%v, 1/2): %v", zero, got)
		}
		if got := wide.MulFrac(half, zero); got != fraction(0, 1) {
			t.Errorf("MulFrac(1/2, %v): %v", zero, got)
		}
		if wide.CmpFrac(zero, half) != -1 || wide.CmpFrac(zero, fraction(-1, 2)) != 1 || wide.CmpFrac(zero, api.Frac{}) != 0 {
			t.Errorf("CmpFrac of %v", zero)
		}
	}
	if got := wide.AddFrac(half, fraction(1, 3)); got != fraction(5, 6) {
		t.Errorf("AddFrac(1/2, 1/3): %v", got)
	}
	if got := wide.AddFrac(api.Frac{}, api.Frac{}); got != fraction(0, 1) {
		t.Errorf("AddFrac of zero Fracs: %v", got)
	}
}

// P1.10: AddFrac and MulFrac satisfy the rules of a commutative ring.
func TestP1_10RingOfFractions(t *testing.T) {
	all := fractions()
	zero, one := fraction(0, 1), fraction(1, 1)
	for _, a := range all {
		lowest := fracOf(ratOf(a))
		if wide.AddFrac(a, zero) != lowest || wide.MulFrac(a, one) != lowest {
			t.Errorf("0, 1 and %v", ratOf(a))
		}
		if wide.AddFrac(a, wide.MulFrac(a, fraction(-1, 1))) != zero {
			t.Errorf("%v has no negative", ratOf(a))
		}
		for _, b := range all {
			if wide.AddFrac(a, b) != wide.AddFrac(b, a) || wide.MulFrac(a, b) != wide.MulFrac(b, a) {
				t.Errorf("not commutative: %v, %v", ratOf(a), ratOf(b))
			}
			for _, c := range all[:20] {
				checkRingOfFractions(t, a, b, c)
			}
		}
	}
}

func checkRingOfFractions(t *testing.T, a, b, c api.Frac) {
	t.Helper()
	if wide.AddFrac(wide.AddFrac(a, b), c) != wide.AddFrac(a, wide.AddFrac(b, c)) ||
		wide.MulFrac(wide.MulFrac(a, b), c) != wide.MulFrac(a, wide.MulFrac(b, c)) {
		t.Errorf("not associative: %v, %v, %v", ratOf(a), ratOf(b), ratOf(c))
	}
	if wide.MulFrac(a, wide.AddFrac(b, c)) != wide.AddFrac(wide.MulFrac(a, b), wide.MulFrac(a, c)) {
		t.Errorf("not distributive: %v, %v, %v", ratOf(a), ratOf(b), ratOf(c))
	}
}
