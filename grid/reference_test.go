package grid_test

import (
	"math/big"

	"lithophane/api"
)

// A slow reference, made of the document's definitions: the vertices are moved by a
// number e that is small enough for all coordinates that are admitted, and the point
// that the line of an edge has in common with the plane of a triangle is computed.

// epsilonBits: e is 2^-epsilonBits. What is not 0 without the movement is at least
// 1/2, and e is multiplied by numbers below 2^43 only.
const epsilonBits = 64

// vector is scaled by a power of 2, so that e^3 is an integer.
type vector [3]*big.Int

const scaleBits = 3*epsilonBits + 1

func shifted(x int, bits uint) *big.Int {
	b := big.NewInt(int64(x))
	return b.Lsh(b, bits)
}

func refPoint(p api.Point) vector {
	return vector{shifted(p.X, scaleBits), shifted(p.Y, scaleBits), shifted(p.Z, scaleBits)}
}

// refVertex returns the moved vertex with the numbers.
func refVertex(p api.Point, level int) vector {
	v := vector{}
	for axis, number := range coordinates(p) {
		v[axis] = shifted(2*number*size(level)-1, scaleBits-1)
		v[axis].Add(v[axis], shifted(1, uint(scaleBits-(axis+1)*epsilonBits)))
	}
	return v
}

func (v vector) minus(w vector) vector {
	var d vector
	for i := range d {
		d[i] = new(big.Int).Sub(v[i], w[i])
	}
	return d
}

func (v vector) times(x *big.Int) vector {
	var m vector
	for i := range m {
		m[i] = new(big.Int).Mul(v[i], x)
	}
	return m
}

func (v vector) dot(w vector) *big.Int {
	sum := new(big.Int)
	for i := range v {
		sum.Add(sum, new(big.Int).Mul(v[i], w[i]))
	}
	return sum
}

func (v vector) cross(w vector) vector {
	var c vector
	for i := range c {
		j, k := (i+1)%3, (i+2)%3
		c[i] = new(big.Int).Sub(new(big.Int).Mul(v[j], w[k]), new(big.Int).Mul(v[k], w[j]))
	}
	return c
}

func (v vector) isZero() bool { return v[0].Sign() == 0 && v[1].Sign() == 0 && v[2].Sign() == 0 }

// refExists reports whether both ends of the edge are vertices.
func refExists(e api.Edge, level int) bool {
	if e.Axis != 0 && e.Axis != 1 && e.Axis != 2 {
		return false
	}
	for axis, x := range coordinates(start(e)) {
		if x < 0 || x > cells(level) || axis == e.Axis && x == cells(level) {
			return false
		}
	}
	return true
}

// refTriangle is a triangle with its normal.
type refTriangle struct {
	corners    [3]vector
	normal     vector
	isAdmitted bool
}

func refTriangleOf(t api.Tri) refTriangle {
	r := refTriangle{corners: [3]vector{refPoint(t[0]), refPoint(t[1]), refPoint(t[2])}}
	r.normal = r.corners[1].minus(r.corners[0]).cross(r.corners[2].minus(r.corners[0]))
	r.isAdmitted = isInside(t[0]) && isInside(t[1]) && isInside(t[2]) && !r.normal.isZero()
	return r
}

// refCrosses is P6.1.
func refCrosses(t api.Tri, e api.Edge, level int) bool {
	return refTriangleOf(t).crosses(e, level)
}

func (r refTriangle) crosses(e api.Edge, level int) bool {
	if level < 1 || level > api.MaxLevel || !refExists(e, level) || !r.isAdmitted {
		return false
	}
	return r.meets(refVertex(start(e), level), refVertex(end(e), level))
}

// meets reports whether the triangle and the segment from p to q have a common point.
// It panics if this is an end of the segment, or on a side of the triangle.
func (r refTriangle) meets(p, q vector) bool {
	ofP, ofQ := r.normal.dot(p.minus(r.corners[0])), r.normal.dot(q.minus(r.corners[0]))
	if ofP.Sign() == 0 || ofQ.Sign() == 0 {
		panic("a moved vertex in the plane of a triangle")
	}
	if ofP.Sign() == ofQ.Sign() {
		return false
	}
	// The common point of the line and the plane is p + (q - p) ofP / weight.
	weight := new(big.Int).Sub(ofP, ofQ)
	common := p.times(weight).minus(p.minus(q).times(ofP))
	inside := 0
	for i, from := range r.corners {
		side := r.corners[(i+1)%3].minus(from)
		turn := r.normal.dot(side.cross(common.minus(from.times(weight)))).Sign() * weight.Sign()
		if turn == 0 {
			panic("a moved edge that meets a side of a triangle, or the line of one")
		}
		if turn > 0 {
			inside++
		}
	}
	return inside == 3
}

// refCross returns those of the edges that an odd number of the triangles crosses.
func refCross(l []api.Tri, edges []api.Edge, level int) []api.Edge {
	var triangles []refTriangle
	for _, t := range l {
		triangles = append(triangles, refTriangleOf(t))
	}
	var odd []api.Edge
	for _, e := range edges {
		count := 0
		for _, r := range triangles {
			if r.crosses(e, level) {
				count++
			}
		}
		if count%2 == 1 {
			odd = append(odd, e)
		}
	}
	return odd
}
