package soup

import (
	"iter"
	"slices"
	"strconv"
	"strings"

	"lithophane/api"
)

const (
	// maxDigits is the number of digits of a number that is not long; its value
	// fits into an int.
	maxDigits = 15
	// maxWords is one more than the number of words of the longest line without
	// an error, that of a polygon with MaxSides corners.
	maxWords = 1 + api.MaxSides + 1
)

// line is a line of a text that has words, of which at most maxWords are kept;
// they are there until the next line is read.
type line struct {
	number int
	words  []string
}

// lines yields the lines of a text that have words.
func lines(text string) iter.Seq[line] {
	return func(yield func(line) bool) {
		var l line
		for s := range strings.SplitSeq(text, "\n") {
			l.number++
			s, _, _ = strings.Cut(s, "#")
			l.words = appendWords(l.words[:0], s)
			if len(l.words) > 0 && !yield(l) {
				return
			}
		}
	}
}

// appendWords appends the words of s, at most maxWords, so that memory is bounded.
// A line with more has the same error without the others: the last word that is
// kept is a number only if all words behind it are numbers, too.
func appendWords(words []string, s string) []string {
	for word := range strings.FieldsFuncSeq(s, isBlank) {
		if len(words) < maxWords {
			words = append(words, word)
		} else if !isNumber(word) {
			words[maxWords-1] = word
		}
	}
	return words
}

func isBlank(r rune) bool { return r == '\t' || r == '\r' || r == ' ' }

// firstWord returns the first word of a text, or nothing if there is none.
func firstWord(text string) string {
	for l := range lines(text) {
		return l.words[0]
	}
	return ""
}

// require throws a failure with the number of the line, unless the condition holds.
func (l line) require(condition bool, kind api.Errno) { require(condition, l.number, kind) }

// corner returns the corner that the words, some or all of the line's, denote.
func (l line) corner(words []string) api.Point {
	l.require(len(words) == 3 && areNumbers(words), api.ErrSyntax)
	l.requireShort(words)
	p := api.Point{X: value(words[0]), Y: value(words[1]), Z: value(words[2])}
	l.require(!isOutside(p), api.ErrRange)
	return p
}

// requireShort throws a failure if one of the numbers is long.
func (l line) requireShort(numbers []string) {
	l.require(!slices.ContainsFunc(numbers, isLong), api.ErrNumber)
}

// areNumbers reports whether all words are numbers.
func areNumbers(words []string) bool {
	for _, word := range words {
		if !isNumber(word) {
			return false
		}
	}
	return true
}

// isNumber reports whether a word consists of digits, with at most one - in front.
func isNumber(word string) bool {
	digits := digitsOf(word)
	for i := range len(digits) {
		if digits[i] < '0' || digits[i] > '9' {
			return false
		}
	}
	return digits != ""
}

func isNegative(word string) bool { return strings.HasPrefix(word, "-") }

func isLong(number string) bool { return len(digitsOf(number)) > maxDigits }

func digitsOf(word string) string { return strings.TrimPrefix(word, "-") }

// value returns the value of a number that is not long.
func value(number string) int {
	n, _ := strconv.Atoi(number)
	return n
}
