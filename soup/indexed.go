package soup

import (
	"strconv"

	"lithophane/api"
)

// readIndexed returns the polygons of a text of form 1.
func readIndexed(text string) []api.Poly {
	var corners []api.Point
	var polys []api.Poly
	for l := range lines(text) {
		switch l.words[0] {
		case "v":
			corners = append(corners, l.corner(l.words[1:]))
		case "f":
			chosen := l.chosen(corners)
			l.require(len(polys) < api.MaxPolys, api.ErrMany)
			polys = append(polys, api.Poly{Corners: chosen, Place: l.number})
		default:
			throw(l.number, api.ErrSyntax)
		}
	}
	return polys
}

// chosen returns those of the corners that the numbers behind the first word denote.
func (l line) chosen(corners []api.Point) []api.Point {
	numbers := l.words[1:]
	l.require(len(numbers) >= minSides && areNumbers(numbers), api.ErrSyntax)
	l.require(len(numbers) <= api.MaxSides, api.ErrMany)
	l.requireShort(numbers)
	chosen := make([]api.Point, len(numbers))
	for i, number := range numbers {
		index := indexOf(value(number), len(corners))
		l.require(index >= 0 && index < len(corners), api.ErrIndex)
		chosen[i] = corners[index]
	}
	return chosen
}

// indexOf returns the index of the corner that n denotes among count corners:
// they are numbered from 1 on, and from the end with negative numbers. If n
// denotes none, the index is beyond the corners, at one end or the other.
func indexOf(n, count int) int {
	if n < 0 {
		return count + n
	}
	return n - 1
}

// writeIndexed returns the text of form 1 whose polygons are those of l.
func writeIndexed(l []api.Poly) string {
	var text []byte
	numbers := map[api.Point]int{}
	for _, p := range l {
		for _, corner := range p.Corners {
			if numbers[corner] == 0 {
				numbers[corner] = len(numbers) + 1
				text = append(text, "v "...)
				text = appendCorner(text, corner)
			}
		}
		text = append(text, 'f')
		for _, corner := range p.Corners {
			text = append(text, ' ')
			text = strconv.AppendInt(text, int64(numbers[corner]), 10)
		}
		text = append(text, '\n')
	}
	return string(text)
}

// appendCorner appends the coordinates of a corner and the end of the line.
func appendCorner(text []byte, p api.Point) []byte {
	text = strconv.AppendInt(text, int64(p.X), 10)
	text = append(text, ' ')
	text = strconv.AppendInt(text, int64(p.Y), 10)
	text = append(text, ' ')
	text = strconv.AppendInt(text, int64(p.Z), 10)
	return append(text, '\n')
}
