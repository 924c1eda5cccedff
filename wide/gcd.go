package wide

import "lithophane/api"

// Gcd returns the greatest natural number that divides both a and b; 0, if both are 0.
func Gcd(a, b api.Wide) api.Wide {
	x, y := decode(a), decode(b)
	quotient := newWords()
	for len(y) > 1 {
		quotient, x = divide(quotient, x, y)
		x, y = y, x
	}
	if len(y) == 0 {
		return encode(false, x)
	}
	_, rest := divideByWord(x, y[0])
	return encode(false, []uint64{gcdOfWords(y[0], rest)})
}

// gcdOfWords returns the greatest common divisor of two words.
func gcdOfWords(x, y uint64) uint64 {
	for y != 0 {
		x, y = y, x%y
	}
	return x
}
