package wide_test

import (
	"math/big"
	"strings"
	"testing"

	"lithophane/api"
	"lithophane/wide"
)

// These helpers compare package wide with math/big, which knows nothing of it.

// bigOf returns the value of a, canonical or not.
func bigOf(a api.Wide) *big.Int {
	n := new(big.Int).SetBytes([]byte(a.Mag))
	if a.Neg {
		n.Neg(n)
	}
	return n
}

// wideOf returns the canonical Wide with the value n.
func wideOf(n *big.Int) api.Wide { return api.Wide{Neg: n.Sign() < 0, Mag: string(n.Bytes())} }

// ratOf returns the value of a, in lowest terms or not.
func ratOf(a api.Frac) *big.Rat {
	if bigOf(a.D).Sign() <= 0 {
		return new(big.Rat)
	}
	return new(big.Rat).SetFrac(bigOf(a.N), bigOf(a.D))
}

// fracOf returns the Frac in lowest terms with the value r.
func fracOf(r *big.Rat) api.Frac { return api.Frac{N: wideOf(r.Num()), D: wideOf(r.Denom())} }

// number returns the Wide that s denotes in hexadecimal.
func number(s string) api.Wide {
	n, ok := new(big.Int).SetString(s, 16)
	if !ok {
		panic(s)
	}
	return wideOf(n)
}

// generator is a sequence of numbers that is the same in every run.
type generator uint64

func (g *generator) next() uint64 {
	*g ^= *g << 13
	*g ^= *g >> 7
	*g ^= *g << 17
	return uint64(*g)
}

// word returns a word at which carries, borrows and guesses are likely to go wrong, or any.
func (g *generator) word() uint64 {
	switch g.next() % 8 {
	case 0:
		return 0
	case 1:
		return 1
	case 2:
		return 1<<63 - 1
	case 3:
		return 1 << 63
	case 4:
		return 1<<64 - 2
	case 5, 6:
		return 1<<64 - 1
	}
	return g.next()
}

// number returns a number of up to the given number of words.
func (g *generator) number(words int) api.Wide {
	n := new(big.Int)
	for range g.next() % uint64(words+1) {
		n.Lsh(n, 64).Or(n, new(big.Int).SetUint64(g.word()))
	}
	n.Rsh(n, uint(g.next()%4*21))
	if g.next()%2 == 0 {
		n.Neg(n)
	}
	return wideOf(n)
}

// samples returns numbers of all sizes, with the borders of bytes, words and ints among them.
func samples() []api.Wide {
	var all []api.Wide
	for _, size := range []string{
		"0", "1", "2", "3", "7", "a", "ff", "100", "101", "ffff", "10000", "ffffffff", "100000000",
		"7fffffffffffffff", "8000000000000000", "8000000000000001", "fffffffffffffffe", "ffffffffffffffff",
		"10000000000000000", "10000000000000001", "8ac7230489e7ffff", "8ac7230489e80000", "8ac7230489e80001",
		"7fffffffffffffff8000000000000000", "80000000000000000000000000000000", "ffffffffffffffffffffffffffffffff",
		"100000000000000000000000000000000", "ffffffffffffffff0000000000000000ffffffffffffffff",
	} {
		all = append(all, number(size))
		if size != "0" {
			all = append(all, number("-"+size))
		}
	}
	g := generator(1)
	for range 48 {
		all = append(all, g.number(5))
	}
	return append(all, g.number(40), g.number(40))
}

// fewSamples returns every fourth sample, for tests of three numbers.
func fewSamples() []api.Wide {
	var few []api.Wide
	for i, a := range samples() {
		if i%4 == 0 {
			few = append(few, a)
		}
	}
	return few
}

// uncanonical returns other Wides with the value of a.
func uncanonical(a api.Wide) []api.Wide {
	if a.Mag == "" {
		return []api.Wide{{Neg: true}, {Mag: "\x00"}, {Neg: true, Mag: "\x00"}, {Neg: true, Mag: strings.Repeat("\x00", 17)}}
	}
	return []api.Wide{{Neg: a.Neg, Mag: "\x00" + a.Mag}, {Neg: a.Neg, Mag: strings.Repeat("\x00", 19) + a.Mag}}
}

// forms returns a and other Wides with its value.
func forms(a api.Wide) []api.Wide { return append(uncanonical(a), a) }

// forPairs calls check with all pairs of samples, and with pairs that are not canonical.
func forPairs(check func(a, b api.Wide)) {
	all := samples()
	for _, a := range all {
		for _, b := range all {
			check(a, b)
		}
	}
	for _, a := range all[:12] {
		for _, b := range all[:12] {
			for _, x := range forms(a) {
				for _, y := range forms(b) {
					check(x, y)
				}
			}
		}
	}
}

// same fails unless got is the canonical Wide with the value want.
func same(t *testing.T, call string, got api.Wide, want *big.Int) {
	t.Helper()
	if got != wideOf(want) {
		t.Errorf("%s: %v (canonical: %v), want %v", call, bigOf(got), got == wideOf(bigOf(got)), want)
	}
}

func parse(t *testing.T, s string) api.Wide {
	t.Helper()
	a, ok := wide.Parse(s)
	if !ok {
		t.Fatalf("Parse(%q): false", s)
	}
	return a
}
