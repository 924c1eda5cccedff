package contour

// vertex is one of the vertices of a cell: for each axis, the bit that says whether
// its coordinate is greater by 1 than that of the least one.
type vertex [3]int

// vertexOf returns the vertex with the number, which is made of its bits.
func vertexOf(number int) vertex { return vertex{number & 1, number >> 1 & 1, number >> 2 & 1} }

// kind is the set of the inside vertices of a cell, by their numbers.
type kind uint8

const everyVertex kind = 1<<8 - 1

func (k kind) isMixed() bool { return k != 0 && k != everyVertex }

func (k kind) contains(number int) bool { return k>>number&1 == 1 }

// crossing is that of the edge with these ends.
type crossing struct{ inside, outside vertex }

// crossings returns the crossings of a cell.
func (k kind) crossings() []crossing {
	var all []crossing
	for number := range 8 {
		for axis := range 3 {
			neighbour := number ^ 1<<axis
			if k.contains(number) && !k.contains(neighbour) {
				all = append(all, crossing{vertexOf(number), vertexOf(neighbour)})
			}
		}
	}
	return all
}

// halves returns the place of c, seen from the least vertex of its cell, in halves of
// an edge.
func (c crossing) halves() [3]int {
	var sum [3]int
	for axis := range sum {
		sum[axis] = c.inside[axis] + c.outside[axis]
	}
	return sum
}
