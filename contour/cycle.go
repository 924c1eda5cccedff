package contour

import "iter"

// cycles returns the cycles of a cell.
func (k kind) cycles() iter.Seq[[]crossing] {
	return func(yield func([]crossing) bool) {
		all, next := k.crossings(), map[crossing]crossing{}
		for _, f := range facesOfCell() {
			f.join(all, next)
		}
		for _, c := range all {
			if _, left := next[c]; left && !yield(takeCycle(next, c)) {
				return
			}
		}
	}
}

// takeCycle takes the cycle that begins with c out of the map, and returns it.
func takeCycle(next map[crossing]crossing, c crossing) []crossing {
	var cycle []crossing
	for following, left := next[c]; left; following, left = next[c] {
		delete(next, c)
		cycle = append(cycle, c)
		c = following
	}
	return cycle
}
