package wide

import (
	"math/bits"

	"lithophane/api"
)

// Root returns the greatest integer whose square is not greater than a; false, if a is negative.
func Root(a api.Wide) (api.Wide, bool) {
	switch Sign(a) {
	case -1:
		return api.Wide{}, false
	case 0:
		return api.Wide{}, true
	}
	return encode(false, rootOfWords(decode(a))), true
}

// rootOfWords follows Newton's method, for a positive x. Begun with a number
// that is not less than the root, it falls until it reaches the root.
func rootOfWords(x []uint64) []uint64 {
	root := powerOfTwo((bitLength(x) + 1) / 2)
	rest, next := newWords(), newWords()
	for {
		rest = append(rest[:0], x...)
		next, rest = divide(next, rest, root)
		next = addWords(next, root)
		shiftRight(next, 1)
		next = trim(next)
		if compareWords(next, root) >= 0 {
			return root
		}
		root, next = next, root
	}
}

// bitLength returns the number of binary digits of a positive x.
func bitLength(x []uint64) int { return wordBits*(len(x)-1) + bits.Len64(x[len(x)-1]) }

// powerOfTwo returns 2^exponent.
func powerOfTwo(exponent int) []uint64 {
	power := make([]uint64, exponent/wordBits, exponent/wordBits+1)
	return append(power, 1<<(exponent%wordBits))
}
