package exact

import (
	"iter"

	"lithophane/api"
)

// point gives the fields of a point names that can be chosen.
type point api.Point

func (p point) x() int { return p.X }
func (p point) y() int { return p.Y }
func (p point) z() int { return p.Z }

// fields returns the fields of a point in the order in which points are compared.
func fields() [3]func(point) int { return [3]func(point) int{point.x, point.y, point.z} }

// rotations visits t three times, with each of its corners as the first one:
// the first two corners are its edges, in the direction of t.
func rotations(t api.Tri) iter.Seq[api.Tri] {
	return func(yield func(api.Tri) bool) {
		for i := range 3 {
			if !yield(api.Tri{t[i], t[(i+1)%3], t[(i+2)%3]}) {
				return
			}
		}
	}
}
