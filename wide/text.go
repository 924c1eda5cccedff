package wide

import (
	"strings"

	"lithophane/api"
)

// Decimal digits are read and written in chunks that fit into a word.
const (
	chunkDigits        = 19
	chunkBase   uint64 = 10_000_000_000_000_000_000
)

// Text returns a in decimal.
func Text(a api.Wide) string {
	text := strings.TrimLeft(string(digits(decode(a))), "0")
	switch {
	case text == "":
		return "0"
	case a.Neg:
		return "-" + text
	}
	return text
}

// digits returns the decimal digits of x, with zeros in front up to a whole number of chunks.
func digits(x []uint64) []byte {
	var chunks []uint64
	for len(x) > 0 {
		var chunk uint64
		x, chunk = divideByWord(x, chunkBase)
		chunks = append(chunks, chunk)
	}
	buffer := make([]byte, chunkDigits*len(chunks))
	end := len(buffer)
	for i := range len(chunks) {
		start := end - chunkDigits
		writeDigits(buffer[start:end:end], chunks[i])
		end = start
	}
	return buffer
}

// writeDigits fills the buffer with the last digits of value.
func writeDigits(buffer []byte, value uint64) {
	for i := range len(buffer) {
		buffer[len(buffer)-1-i] = '0' + byte(value%10)
		value /= 10
	}
}

// Parse returns the number that s denotes in decimal; false, if it denotes none.
func Parse(s string) (api.Wide, bool) {
	digits, neg := strings.CutPrefix(s, "-")
	if !isDecimal(digits) {
		return api.Wide{}, false
	}
	x := newWords()
	for len(digits) > 0 {
		size := (len(digits)-1)%chunkDigits + 1 // only the first chunk may be shorter
		x = appendChunk(x, readDigits(digits[:size]))
		digits = digits[size:]
	}
	return encode(neg, x), true
}

// isDecimal tells whether s consists of one or more digits.
func isDecimal(s string) bool {
	for i := range len(s) {
		if s[i] < '0' || s[i] > '9' {
			return false
		}
	}
	return s != ""
}

// readDigits returns the number that the digits of a chunk denote.
func readDigits(digits string) uint64 {
	var value uint64
	for i := range len(digits) {
		value = value*10 + uint64(digits[i]-'0')
	}
	return value
}

// appendChunk returns the number whose decimal digits are those of x, in whose memory it is, and of a chunk.
func appendChunk(x []uint64, chunk uint64) []uint64 {
	carry := chunk
	for i := range len(x) {
		carry, x[i] = multiplyAdd(x[i], chunkBase, carry)
	}
	if carry != 0 {
		x = append(x, carry)
	}
	return x
}
