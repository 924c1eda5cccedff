package soup

import (
	"strconv"
	"strings"

	"lithophane/api"
)

// readListed returns the polygons of a text of form 2.
func readListed(text string) []api.Poly {
	var polys []api.Poly
	missing := 0 // corners of the last polygon
	for l := range lines(text) {
		if missing == 0 {
			missing = l.sides(len(polys))
			polys = append(polys, api.Poly{Corners: make([]api.Point, 0, missing), Place: l.number})
			continue
		}
		last := &polys[len(polys)-1]
		last.Corners = append(last.Corners, l.corner(l.words))
		missing--
	}
	require(missing == 0, strings.Count(text, "\n")+1, api.ErrShort)
	return polys
}

// sides returns the number of corners of the polygon that the line begins;
// above is the number of polygons above it.
func (l line) sides(above int) int {
	l.require(len(l.words) == 2 && l.words[0] == listedStart, api.ErrSyntax)
	number := l.words[1]
	l.require(isNumber(number) && !isNegative(number), api.ErrSyntax)
	l.requireShort(l.words[1:])
	sides := value(number)
	throw(l.number, sidesError(sides))
	l.require(above < api.MaxPolys, api.ErrMany)
	return sides
}

// writeListed returns the text of form 2 whose polygons are those of l.
func writeListed(l []api.Poly) string {
	var text []byte
	for _, p := range l {
		text = append(text, listedStart+" "...)
		text = strconv.AppendInt(text, int64(len(p.Corners)), 10)
		text = append(text, '\n')
		for _, corner := range p.Corners {
			text = appendCorner(text, corner)
		}
	}
	return string(text)
}
