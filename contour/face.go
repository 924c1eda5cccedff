package contour

// face is the face of a cell whose vertices have the bit along the axis.
type face struct{ axis, bit int }

func facesOfCell() [6]face { return [6]face{{0, 0}, {0, 1}, {1, 0}, {1, 1}, {2, 0}, {2, 1}} }

// crossingsAmong returns those of the crossings that lie on f.
func (f face) crossingsAmong(all []crossing) []crossing {
	var on []crossing
	for _, c := range all {
		if c.inside[f.axis] == f.bit && c.outside[f.axis] == f.bit {
			on = append(on, c)
		}
	}
	return on
}

// hasInsideRight reports whether the inside end of p lies to the right of the way from
// p to q, as seen from outside of the cell. If p and q are the only crossings of f, all
// of its inside vertices lie on the same side, so that the end of p stands for them.
func (f face) hasInsideRight(p, q crossing) bool {
	u, w := (f.axis+1)%3, (f.axis+2)%3
	from, to := p.halves(), q.halves()
	// As p is in the middle of its edge, the way from p to the inside end has the
	// direction of that from the outside end to it.
	determinant := (to[u]-from[u])*(p.inside[w]-p.outside[w]) - (to[w]-from[w])*(p.inside[u]-p.outside[u])
	if f.bit == 0 {
		determinant = -determinant // the outward normal is opposite to the axis
	}
	return determinant < 0
}

// join adds what is joined on f: for a crossing, the one to which it is joined.
func (f face) join(all []crossing, next map[crossing]crossing) {
	on := f.crossingsAmong(all)
	for _, p := range on {
		for _, q := range on {
			if (len(on) == 2 || p.inside == q.inside) && f.hasInsideRight(p, q) {
				next[p] = q
			}
		}
	}
}
