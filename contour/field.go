package contour

import (
	"iter"

	"lithophane/api"
)

// isValid reports whether f has a level that is permitted, all vertices of the grid,
// and none at its border that is inside.
func isValid(f api.Field) bool {
	if f.Level < 1 || f.Level > api.MaxLevel {
		return false
	}
	vertices := cells(f.Level) + 1 // in a row
	return len(f.In) == vertices*vertices*vertices && !hasInsideAtBorder(f)
}

func hasInsideAtBorder(f api.Field) bool {
	n, steps := cells(f.Level), stepsOf(f.Level)
	for axis, step := range steps {
		u, w := steps[(axis+1)%3], steps[(axis+2)%3]
		for i := range n + 1 {
			for j := range n + 1 {
				first := i*u + j*w
				if f.In[first] || f.In[first+n*step] {
					return true
				}
			}
		}
	}
	return false
}

// cells returns the number of cells in a row.
func cells(level int) int { return 1 << level }

// stepsOf returns, for each axis, how much greater the index of the next vertex is.
func stepsOf(level int) [3]int {
	vertices := cells(level) + 1
	return [3]int{1, vertices, vertices * vertices}
}

// place holds the coordinates of a vertex of the grid. A cell is at the place of its
// least vertex.
type place [3]int

func (p place) index(steps [3]int) int { return p[0]*steps[0] + p[1]*steps[1] + p[2]*steps[2] }

// mixedCells returns the places and the kinds of the cells of a valid field that have
// both inside and outside vertices.
func mixedCells(f api.Field) iter.Seq2[place, kind] {
	steps := stepsOf(f.Level)
	var offsets [8]int
	for number := range offsets {
		offsets[number] = place(vertexOf(number)).index(steps)
	}
	return func(yield func(place, kind) bool) {
		for at := range placesOfCells(cells(f.Level)) {
			k := kindOf(f.In[at.index(steps):], &offsets)
			if k.isMixed() && !yield(at, k) {
				return
			}
		}
	}
}

func placesOfCells(n int) iter.Seq[place] {
	return func(yield func(place) bool) {
		for z := range n {
			for y := range n {
				for x := range n {
					if !yield(place{x, y, z}) {
						return
					}
				}
			}
		}
	}
}

// kindOf returns the kind of the cell whose least vertex is the first one of in, and
// whose vertices have the offsets.
func kindOf(in []bool, offsets *[8]int) kind {
	var k kind
	for number, offset := range offsets {
		if in[offset] {
			k |= 1 << number
		}
	}
	return k
}
