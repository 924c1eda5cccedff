package wide

import (
	"cmp"
	"math"
	"math/bits"
	"strings"

	"lithophane/api"
)

// Words are the digits of a natural number to the base 2^64, the least
// significant one first, without zeros at the end. Functions that change words
// in place say so: all words belong to the call that decoded them.

const (
	wordBits  = 64
	wordBytes = 8
	// stackWords are enough for the numbers of the layers above, which then
	// need no memory but that of their results.
	stackWords = 8
)

// newWords is inlined, so that short numbers stay on the stack of the caller.
func newWords() []uint64 { return make([]uint64, 0, stackWords) }

// decode returns the words of a; it is inlined for the same reason as newWords.
func decode(a api.Wide) []uint64 { return appendWords(newWords(), a) }

// magnitude returns the bytes of the absolute value without leading zeros.
func magnitude(a api.Wide) string { return strings.TrimLeft(a.Mag, "\x00") }

// appendWords appends the words of a.
func appendWords(words []uint64, a api.Wide) []uint64 {
	mag := magnitude(a)
	for end := len(mag); end > 0; end -= wordBytes {
		words = append(words, wordOf(mag[max(0, end-wordBytes):end]))
	}
	return words
}

// wordOf reads up to eight bytes, the most significant one first.
func wordOf(mag string) uint64 {
	var word uint64
	for i := range len(mag) {
		word = word<<8 | uint64(mag[i])
	}
	return word
}

// encode returns the canonical number with these words, which may end in zeros.
func encode(neg bool, words []uint64) api.Wide {
	words = trim(words)
	if len(words) == 0 {
		return api.Wide{}
	}
	mag := appendBytes(make([]byte, 0, stackWords*wordBytes), words)
	zeros := bits.LeadingZeros64(words[len(words)-1]) / 8
	return api.Wide{Neg: neg, Mag: string(mag[zeros:])}
}

// appendBytes appends eight bytes for each word, the most significant one first.
func appendBytes(mag []byte, words []uint64) []byte {
	for i := range len(words) {
		word := words[len(words)-1-i]
		for shift := wordBits - 8; shift >= 0; shift -= 8 {
			mag = append(mag, byte(word>>shift))
		}
	}
	return mag
}

// trim removes the zeros at the end.
func trim(words []uint64) []uint64 {
	for len(words) > 0 && words[len(words)-1] == 0 {
		words = words[:len(words)-1]
	}
	return words
}

// compareWords returns the sign of x - y.
func compareWords(x, y []uint64) int {
	order := cmp.Compare(len(x), len(y))
	for i := len(x) - 1; i >= 0 && order == 0; i-- {
		order = cmp.Compare(x[i], y[i])
	}
	return order
}

// addWords returns x + y in the memory of x, if that is enough.
func addWords(x, y []uint64) []uint64 {
	for len(x) < len(y) {
		x = append(x, 0)
	}
	if carry := addInPlace(x, y); carry != 0 {
		x = append(x, carry)
	}
	return x
}

// addInPlace adds y to x, which is at least as long, and returns the carry.
func addInPlace(x, y []uint64) uint64 {
	var carry uint64
	for i := range len(y) {
		x[i], carry = bits.Add64(x[i], y[i], carry)
	}
	for i := len(y); i < len(x) && carry != 0; i++ {
		x[i], carry = bits.Add64(x[i], 0, carry)
	}
	return carry
}

// subtractInPlace subtracts y from x, which is not less; zeros may remain at the end.
func subtractInPlace(x, y []uint64) {
	var borrow uint64
	for i := range len(y) {
		x[i], borrow = bits.Sub64(x[i], y[i], borrow)
	}
	for i := len(y); i < len(x) && borrow != 0; i++ {
		x[i], borrow = bits.Sub64(x[i], 0, borrow)
	}
}

// multiply returns x y in the memory of space, if that is enough; zeros may remain at the end.
func multiply(space, x, y []uint64) []uint64 {
	product := append(space[:0], make([]uint64, len(x)+len(y))...)
	for i := range len(y) {
		product[i+len(x)] = addProduct(product[i:i+len(x)], x, y[i])
	}
	return product
}

// addProduct adds x times factor to sum, which is as long as x, and returns the carry.
func addProduct(sum, x []uint64, factor uint64) uint64 {
	var carry uint64
	for i := range len(x) {
		high, low := multiplyAdd(x[i], factor, carry)
		sum[i], carry = bits.Add64(sum[i], low, 0)
		carry += high
	}
	return carry
}

// subtractProduct subtracts y times factor from x, which has one word more than y, and returns the borrow.
func subtractProduct(x, y []uint64, factor uint64) uint64 {
	var carry, borrow uint64
	for i := range len(y) {
		high, low := multiplyAdd(y[i], factor, carry)
		x[i], borrow = bits.Sub64(x[i], low, borrow)
		carry = high
	}
	top := len(y)
	x[top], borrow = bits.Sub64(x[top], carry, borrow)
	return borrow
}

// multiplyAdd returns x y + addend, which always fits into two words.
func multiplyAdd(x, y, addend uint64) (high, low uint64) {
	high, low = bits.Mul64(x, y)
	low, carry := bits.Add64(low, addend, 0)
	return high + carry, low
}

// shiftLeft multiplies x by 2^count in place, for a count below 64, and returns the carry.
func shiftLeft(x []uint64, count uint) uint64 {
	var carry uint64
	for i := range len(x) {
		x[i], carry = x[i]<<count|carry, x[i]>>(wordBits-count)
	}
	return carry
}

// shiftRight divides x by 2^count in place, for a count below 64; zeros may remain at the end.
func shiftRight(x []uint64, count uint) {
	var carry uint64
	for i := len(x) - 1; i >= 0; i-- {
		x[i], carry = x[i]>>count|carry, x[i]<<(wordBits-count)
	}
}

// divide returns the quotient of x and y, which is not 0, in the memory of
// space, and the remainder in that of x, if these are enough. In between, x and
// y are shifted such that the highest bit of y is set, so that the highest
// words tell each word of the quotient nearly exactly.
func divide(space, x, y []uint64) (quotient, remainder []uint64) {
	if len(x) < len(y) {
		return space[:0], x
	}
	count := uint(bits.LeadingZeros64(y[len(y)-1]))
	shiftLeft(y, count)
	carry := shiftLeft(x, count)
	x = append(x, carry)
	quotient = append(space[:0], make([]uint64, len(x)-len(y))...)
	for i := len(quotient) - 1; i >= 0; i-- {
		quotient[i] = divideWindow(x[i:i+len(y)+1], y)
	}
	shiftRight(y, count)
	shiftRight(x, count)
	return trim(quotient), trim(x)
}

// divideWindow returns the quotient of window and y, which fits into a word;
// the remainder replaces window. The highest bit of y is set, and window has
// one word more. The highest words give a quotient that is too large by 2 at
// most.
func divideWindow(window, y []uint64) uint64 {
	top := len(y) - 1
	guess := uint64(math.MaxUint64)
	if window[top+1] < y[top] {
		guess, _ = bits.Div64(window[top+1], window[top], y[top])
	}
	for borrow := subtractProduct(window, y, guess); borrow != 0; guess-- {
		borrow -= addInPlace(window, y)
	}
	return guess
}

// divideByWord divides x in place, and returns the quotient and the remainder.
func divideByWord(x []uint64, divisor uint64) ([]uint64, uint64) {
	var rest uint64
	for i := len(x) - 1; i >= 0; i-- {
		x[i], rest = bits.Div64(rest, x[i], divisor)
	}
	return trim(x), rest
}
