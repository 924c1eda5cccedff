// Package wide computes with integers and fractions of any size.
//
// Arguments need not be canonical; all results are.
package wide

import (
	"cmp"
	"math"
	"strings"

	"lithophane/api"
)

// From returns n.
func From(n int) api.Wide {
	size := uint64(n)
	if n < 0 {
		size = -size // wraps around to the right size even for the least int
	}
	return encode(n < 0, []uint64{size})
}

// Int returns a and true, if a fits into an int.
func Int(a api.Wide) (int, bool) {
	mag := magnitude(a)
	if len(mag) > wordBytes {
		return 0, false
	}
	size := wordOf(mag)
	switch {
	case size <= math.MaxInt64 && a.Neg:
		return -int(size), true
	case size <= math.MaxInt64:
		return int(size), true
	case size == math.MaxInt64+1 && a.Neg:
		return math.MinInt64, true
	}
	return 0, false
}

// Neg returns -a.
func Neg(a api.Wide) api.Wide {
	mag := magnitude(a)
	// The copy does not keep the leading zeros of a alive.
	return api.Wide{Neg: !a.Neg && mag != "", Mag: strings.Clone(mag)}
}

// Add returns a + b.
func Add(a, b api.Wide) api.Wide { return addSigned(a, b, b.Neg) }

// Sub returns a - b.
func Sub(a, b api.Wide) api.Wide { return addSigned(a, b, !b.Neg) }

// addSigned adds the absolute value of b, with the sign neg, to a.
func addSigned(a, b api.Wide, neg bool) api.Wide {
	x, y := decode(a), decode(b)
	if a.Neg == neg {
		return encode(neg, addWords(x, y))
	}
	if compareWords(x, y) < 0 {
		subtractInPlace(y, x)
		return encode(neg, y)
	}
	subtractInPlace(x, y)
	return encode(a.Neg, x)
}

// Mul returns a b.
func Mul(a, b api.Wide) api.Wide {
	return encode(a.Neg != b.Neg, multiply(newWords(), decode(a), decode(b)))
}

// Quo returns the quotient of a and b, rounded towards 0, and the remainder; false, if b is 0.
func Quo(a, b api.Wide) (q, r api.Wide, ok bool) {
	y := decode(b)
	if len(y) == 0 {
		return api.Wide{}, api.Wide{}, false
	}
	quotient, remainder := divide(newWords(), decode(a), y)
	return encode(a.Neg != b.Neg, quotient), encode(a.Neg, remainder), true
}

// Sign returns the sign of a.
func Sign(a api.Wide) int {
	switch {
	case magnitude(a) == "":
		return 0
	case a.Neg:
		return -1
	}
	return 1
}

// Cmp returns the sign of a - b.
func Cmp(a, b api.Wide) int {
	sign := Sign(a)
	if order := cmp.Compare(sign, Sign(b)); order != 0 {
		return order
	}
	return sign * compareMagnitudes(magnitude(a), magnitude(b))
}

// compareMagnitudes compares magnitudes without leading zeros.
func compareMagnitudes(x, y string) int {
	if order := cmp.Compare(len(x), len(y)); order != 0 {
		return order
	}
	return strings.Compare(x, y)
}
