package wide_test

import (
	"math"
	"math/big"
	"strings"
	"testing"

	"lithophane/api"
	"lithophane/wide"
)

// P1.1: From and Int, at the borders of bytes and of int.
func TestP1_1FromAndInt(t *testing.T) {
	for _, n := range []int{0, 1, -1, 127, -128, 255, -255, 256, -256, 65535, 65536, 1 << 32, -1 << 32,
		math.MaxInt - 1, math.MaxInt, math.MinInt + 1, math.MinInt} {
		a := wide.From(n)
		same(t, "From", a, big.NewInt(int64(n)))
		for _, x := range forms(a) {
			if m, ok := wide.Int(x); m != n || !ok {
				t.Errorf("Int(%q): %d, %v, want %d", x.Mag, m, ok, n)
			}
		}
	}
	if a := wide.From(-300); a != (api.Wide{Neg: true, Mag: "\x01\x2c"}) {
		t.Errorf("From(-300): %v", a)
	}
}

// P1.1: numbers that do not fit into an int, the neighbours of the extreme ints among them.
func TestP1_1IntTooLarge(t *testing.T) {
	for _, s := range []string{"8000000000000000", "-8000000000000001", "ffffffffffffffff", "-ffffffffffffffff",
		"10000000000000000", "-10000000000000000", "10000000000000001", "7fffffffffffffff00"} {
		for _, x := range forms(number(s)) {
			if n, ok := wide.Int(x); n != 0 || ok {
				t.Errorf("Int(%s, %q): %d, %v, want 0, false", s, x.Mag, n, ok)
			}
		}
	}
}

// P1.2: Neg, also of all forms of 0.
func TestP1_2Neg(t *testing.T) {
	for _, a := range samples() {
		for _, x := range forms(a) {
			same(t, "Neg", wide.Neg(x), new(big.Int).Neg(bigOf(x)))
		}
	}
}

// P1.2: Add, Sub and Mul of all pairs.
func TestP1_2AddSubMul(t *testing.T) {
	forPairs(func(a, b api.Wide) {
		x, y := bigOf(a), bigOf(b)
		same(t, "Add", wide.Add(a, b), new(big.Int).Add(x, y))
		same(t, "Sub", wide.Sub(a, b), new(big.Int).Sub(x, y))
		same(t, "Mul", wide.Mul(a, b), new(big.Int).Mul(x, y))
	})
	power := wide.From(1 << 40)
	if product := wide.Mul(power, power); product.Neg || product.Mag != "\x01"+strings.Repeat("\x00", 10) {
		t.Errorf("Mul of 2^40 and 2^40: %q", product.Mag)
	}
}

// P1.3: Quo of all pairs, and by all forms of 0.
func TestP1_3Quo(t *testing.T) {
	forPairs(func(a, b api.Wide) {
		q, r, ok := wide.Quo(a, b)
		x, y := bigOf(a), bigOf(b)
		if y.Sign() == 0 {
			if q != (api.Wide{}) || r != (api.Wide{}) || ok {
				t.Errorf("Quo(%v, 0): %v, %v, %v", x, q, r, ok)
			}
			return
		}
		same(t, "Quo: quotient", q, new(big.Int).Quo(x, y))
		same(t, "Quo: remainder", r, new(big.Int).Rem(x, y))
		if !ok {
			t.Errorf("Quo(%v, %v): false", x, y)
		}
	})
}

// P1.3: quotients are rounded towards 0.
func TestP1_3QuoRounds(t *testing.T) {
	for _, x := range [][4]int{{7, 2, 3, 1}, {-7, 2, -3, -1}, {7, -2, -3, 1}, {-7, -2, 3, -1}, {1, 2, 0, 1}, {-1, 2, 0, -1},
		{6, -3, -2, 0}, {0, -5, 0, 0}, {math.MinInt, 1, math.MinInt, 0}} {
		q, r, ok := wide.Quo(wide.From(x[0]), wide.From(x[1]))
		if q != wide.From(x[2]) || r != wide.From(x[3]) || !ok {
			t.Errorf("Quo(%d, %d): %v, %v, %v", x[0], x[1], bigOf(q), bigOf(r), ok)
		}
	}
	if q, r, ok := wide.Quo(wide.From(math.MinInt), wide.From(-1)); q != number("8000000000000000") || r != (api.Wide{}) || !ok {
		t.Errorf("Quo of the least int and -1: %v, %v, %v", bigOf(q), bigOf(r), ok)
	}
}

// P1.3: many divisions of numbers at which guesses of quotients are too large.
func TestP1_3QuoGuesses(t *testing.T) {
	g := generator(7)
	for range 20000 {
		a, b := g.number(8), g.number(4)
		if b.Mag == "" {
			continue
		}
		q, r, _ := wide.Quo(a, b)
		x, y := bigOf(a), bigOf(b)
		same(t, "Quo: quotient", q, new(big.Int).Quo(x, y))
		same(t, "Quo: remainder", r, new(big.Int).Rem(x, y))
	}
}

// P1.4: Root of all samples; it has no value for negative numbers.
func TestP1_4Root(t *testing.T) {
	for _, a := range samples() {
		for _, x := range forms(a) {
			root, ok := wide.Root(x)
			if bigOf(x).Sign() < 0 {
				if root != (api.Wide{}) || ok {
					t.Errorf("Root(%v): %v, %v", bigOf(x), bigOf(root), ok)
				}
				continue
			}
			same(t, "Root", root, new(big.Int).Sqrt(bigOf(x)))
			if !ok {
				t.Errorf("Root(%v): false", bigOf(x))
			}
		}
	}
	if root, ok := wide.Root(wide.From(99)); root != wide.From(9) || !ok {
		t.Errorf("Root(99): %v, %v", bigOf(root), ok)
	}
}

// P1.4: Root of squares and of their neighbours.
func TestP1_4RootOfSquares(t *testing.T) {
	one := big.NewInt(1)
	for _, a := range samples() {
		size := new(big.Int).Abs(bigOf(a))
		if size.Sign() == 0 {
			continue
		}
		square := new(big.Int).Mul(size, size)
		root, _ := wide.Root(wideOf(square))
		same(t, "Root of a square", root, size)
		root, _ = wide.Root(wideOf(new(big.Int).Add(square, one)))
		same(t, "Root of a square plus 1", root, new(big.Int).Sqrt(new(big.Int).Add(square, one)))
		root, _ = wide.Root(wideOf(new(big.Int).Sub(square, one)))
		same(t, "Root of a square minus 1", root, new(big.Int).Sub(size, one))
	}
	for n := range 5000 {
		root, _ := wide.Root(wide.From(n))
		same(t, "Root", root, new(big.Int).Sqrt(big.NewInt(int64(n))))
	}
}

// P1.5: Gcd of all pairs, 0 and 0 among them.
func TestP1_5Gcd(t *testing.T) {
	forPairs(func(a, b api.Wide) {
		x, y := bigOf(a), bigOf(b)
		same(t, "Gcd", wide.Gcd(a, b), new(big.Int).GCD(nil, nil, x.Abs(x), y.Abs(y)))
	})
	for _, x := range [][3]int{{-12, 18, 6}, {12, -18, 6}, {-12, -18, 6}, {0, 0, 0}, {0, -5, 5}, {-5, 0, 5}, {17, 5, 1}} {
		if d := wide.Gcd(wide.From(x[0]), wide.From(x[1])); d != wide.From(x[2]) {
			t.Errorf("Gcd(%d, %d): %v", x[0], x[1], bigOf(d))
		}
	}
}

// P1.5: a common factor is found.
func TestP1_5GcdOfMultiples(t *testing.T) {
	few := fewSamples()
	for _, a := range few {
		for _, b := range few {
			for _, c := range few {
				d := new(big.Int).GCD(nil, nil, new(big.Int).Abs(bigOf(a)), new(big.Int).Abs(bigOf(b)))
				same(t, "Gcd", wide.Gcd(wide.Mul(a, c), wide.Mul(b, c)), d.Abs(d.Mul(d, bigOf(c))))
			}
		}
	}
}

// P1.6: Sign and Cmp, also of forms that are not canonical.
func TestP1_6SignAndCmp(t *testing.T) {
	forPairs(func(a, b api.Wide) {
		x, y := bigOf(a), bigOf(b)
		if wide.Sign(a) != x.Sign() {
			t.Errorf("Sign(%v): %d", x, wide.Sign(a))
		}
		if wide.Cmp(a, b) != x.Cmp(y) {
			t.Errorf("Cmp(%v, %v): %d", x, y, wide.Cmp(a, b))
		}
	})
	for _, x := range uncanonical(api.Wide{}) {
		if wide.Sign(x) != 0 {
			t.Errorf("Sign of 0 as %v %q: %d", x.Neg, x.Mag, wide.Sign(x))
		}
		for _, y := range uncanonical(api.Wide{}) {
			if wide.Cmp(x, y) != 0 {
				t.Errorf("Cmp of 0 and 0 as %v %q, %v %q: %d", x.Neg, x.Mag, y.Neg, y.Mag, wide.Cmp(x, y))
			}
		}
	}
}

// P1.10: Add and Mul satisfy the rules of a commutative ring.
func TestP1_10Ring(t *testing.T) {
	few := fewSamples()
	zero, one := api.Wide{}, wide.From(1)
	for _, a := range few {
		if wide.Add(a, zero) != a || wide.Mul(a, one) != a || wide.Add(a, wide.Neg(a)) != zero || wide.Mul(a, zero) != zero {
			t.Errorf("0, 1 and %v", bigOf(a))
		}
		for _, b := range few {
			if wide.Add(a, b) != wide.Add(b, a) || wide.Mul(a, b) != wide.Mul(b, a) || wide.Sub(a, b) != wide.Add(a, wide.Neg(b)) {
				t.Errorf("not commutative: %v, %v", bigOf(a), bigOf(b))
			}
			for _, c := range few {
				checkRing(t, a, b, c)
			}
		}
	}
}

func checkRing(t *testing.T, a, b, c api.Wide) {
	t.Helper()
	if wide.Add(wide.Add(a, b), c) != wide.Add(a, wide.Add(b, c)) || wide.Mul(wide.Mul(a, b), c) != wide.Mul(a, wide.Mul(b, c)) {
		t.Errorf("not associative: %v, %v, %v", bigOf(a), bigOf(b), bigOf(c))
	}
	if wide.Mul(a, wide.Add(b, c)) != wide.Add(wide.Mul(a, b), wide.Mul(a, c)) {
		t.Errorf("not distributive: %v, %v, %v", bigOf(a), bigOf(b), bigOf(c))
	}
}

// P1.10: remainders are less than the divisor, and have the sign of a; quotient and remainder make up a.
func TestP1_10Remainders(t *testing.T) {
	forPairs(func(a, b api.Wide) {
		q, r, ok := wide.Quo(a, b)
		if !ok {
			return
		}
		if wide.Cmp(wide.Add(wide.Mul(q, b), r), a) != 0 {
			t.Errorf("Quo(%v, %v): %v, %v", bigOf(a), bigOf(b), bigOf(q), bigOf(r))
		}
		if bigOf(r).CmpAbs(bigOf(b)) >= 0 || wide.Sign(r) != 0 && wide.Sign(r) != wide.Sign(a) {
			t.Errorf("remainder of %v and %v: %v", bigOf(a), bigOf(b), bigOf(r))
		}
	})
}

// P1: numbers of many bytes are computed with, too.
func TestP1LongNumbers(t *testing.T) {
	a := api.Wide{Neg: true, Mag: strings.Repeat("\xff\x80\x00\x01\x7f", 2000)}
	b := api.Wide{Mag: strings.Repeat("\x00", 100000) + strings.Repeat("\xff", 3001)}
	x, y := bigOf(a), bigOf(b)
	same(t, "Add", wide.Add(a, b), new(big.Int).Add(x, y))
	same(t, "Sub", wide.Sub(b, a), new(big.Int).Sub(y, x))
	same(t, "Mul", wide.Mul(a, b), new(big.Int).Mul(x, y))
	q, r, _ := wide.Quo(a, b)
	same(t, "Quo: quotient", q, new(big.Int).Quo(x, y))
	same(t, "Quo: remainder", r, new(big.Int).Rem(x, y))
	root, _ := wide.Root(wide.Neg(a))
	same(t, "Root", root, new(big.Int).Sqrt(new(big.Int).Neg(x)))
	same(t, "Gcd", wide.Gcd(a, b), new(big.Int).GCD(nil, nil, new(big.Int).Neg(x), y))
	if s := wide.Text(a); s != x.String() {
		t.Errorf("Text of %d bytes: %d digits, want %d", len(a.Mag), len(s), len(x.String()))
	}
	same(t, "Parse", parse(t, x.String()), x)
}
