package exact

import (
	"math/bits"

	"lithophane/api"
)

// Most points are near to each other, so that ints are enough: the components
// of a short vector are less than 2^30, those of a vector product of two short
// ones less than 2^61, and scalar products of these fit into 128 bits.

// shortBits is the number of bits of the range of half a component of a short
// vector.
const shortBits = 29

// vector is a short vector, or a vector product of two of them.
type vector [3]int

// between returns the vector from a to b, and whether it is short; if it is
// not, its components may have overflowed.
func between(a, b api.Point) (v vector, short bool) {
	const middle = 1 << (shortBits - 1)
	// Differences of halves never overflow; shifted by the middle of the range,
	// they have no bits beyond it if they are inside, whatever wraps around.
	x := (b.X >> 1) - (a.X >> 1) + middle
	y := (b.Y >> 1) - (a.Y >> 1) + middle
	z := (b.Z >> 1) - (a.Z >> 1) + middle
	return vector{b.X - a.X, b.Y - a.Y, b.Z - a.Z}, uint(x|y|z) < 1<<shortBits
}

// normal returns the normal of t, and whether the vectors that span t are
// short; if they are not, it may have overflowed.
func normal(t api.Tri) (n vector, short bool) {
	toB, shortB := between(t[0], t[1])
	toC, shortC := between(t[0], t[2])
	return toB.cross(toC), shortB && shortC
}

// cross returns the vector product of short vectors.
func (v vector) cross(w vector) vector {
	return vector{v[1]*w[2] - v[2]*w[1], v[2]*w[0] - v[0]*w[2], v[0]*w[1] - v[1]*w[0]}
}

// dotSign returns the sign of the scalar product.
func (v vector) dotSign(w vector) int {
	var high, low, carry uint64
	for i := range v {
		h, l := multiply(v[i], w[i])
		low, carry = bits.Add64(low, l, 0)
		high, _ = bits.Add64(high, h, carry)
	}
	switch {
	case int64(high) < 0:
		return -1
	case high|low == 0:
		return 0
	}
	return 1
}

// multiply returns the product as a number of 128 bits in two's complement.
func multiply(x, y int) (high, low uint64) {
	high, low = bits.Mul64(uint64(x), uint64(y))
	if x < 0 {
		high -= uint64(y)
	}
	if y < 0 {
		high -= uint64(x)
	}
	return high, low
}
