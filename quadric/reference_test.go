package quadric_test

import (
	"math/big"
	"testing"

	"lithophane/api"
)

// The reference computes with lists of terms of math/big: polynomials are multiplied term
// by term, and like terms are collected afterwards.

// term is a product of a number and of powers of x, y and z.
type term struct {
	factor *big.Int
	powers [3]int
}

// powers are those of x, y and z that belong to the coefficients, as the document lists them.
var powers = [10][3]int{{2, 0, 0}, {1, 1, 0}, {1, 0, 1}, {1, 0, 0}, {0, 2, 0}, {0, 1, 1}, {0, 1, 0}, {0, 0, 2}, {0, 0, 1}, {0, 0, 0}}

func big64(n int) *big.Int { return big.NewInt(int64(n)) }

func product(a, b *big.Int) *big.Int { return new(big.Int).Mul(a, b) }

func bigOf(a api.Wide) *big.Int {
	n := new(big.Int).SetBytes([]byte(a.Mag))
	if a.Neg {
		n.Neg(n)
	}
	return n
}

// wideOf returns the canonical number with the value n.
func wideOf(n *big.Int) api.Wide { return api.Wide{Neg: n.Sign() < 0, Mag: string(n.Bytes())} }

// bigVector returns the vector from a to b.
func bigVector(a, b api.Point) [3]*big.Int {
	minus := func(x, y int) *big.Int { return new(big.Int).Sub(big64(x), big64(y)) }
	return [3]*big.Int{minus(b.X, a.X), minus(b.Y, a.Y), minus(b.Z, a.Z)}
}

// refDeterminant adds up the products of all permutations, with their signs.
func refDeterminant(u, v, w [3]*big.Int) *big.Int {
	sum := new(big.Int)
	for _, x := range [][4]int{{0, 1, 2, 1}, {1, 2, 0, 1}, {2, 0, 1, 1}, {0, 2, 1, -1}, {1, 0, 2, -1}, {2, 1, 0, -1}} {
		sum.Add(sum, product(big64(x[3]), product(u[x[0]], product(v[x[1]], w[x[2]]))))
	}
	return sum
}

// refPlane returns the terms A x + B y + C z + D of a triangle.
func refPlane(tri api.Tri) []term {
	v, w := bigVector(tri[0], tri[1]), bigVector(tri[0], tri[2])
	unit := func(i int) [3]*big.Int {
		u := [3]*big.Int{new(big.Int), new(big.Int), new(big.Int)}
		u[i] = big64(1)
		return u
	}
	a, b, c := refDeterminant(v, w, unit(0)), refDeterminant(v, w, unit(1)), refDeterminant(v, w, unit(2))
	plane := []term{{a, [3]int{1, 0, 0}}, {b, [3]int{0, 1, 0}}, {c, [3]int{0, 0, 1}}}
	d := new(big.Int).Neg(refValue(plane, tri[0]))
	return append(plane, term{d, [3]int{0, 0, 0}})
}

// refValue returns the sum of the terms at p.
func refValue(terms []term, p api.Point) *big.Int {
	sum := new(big.Int)
	for _, x := range terms {
		value := new(big.Int).Set(x.factor)
		for i, coordinate := range []int{p.X, p.Y, p.Z} {
			for range x.powers[i] {
				value.Mul(value, big64(coordinate))
			}
		}
		sum.Add(sum, value)
	}
	return sum
}

// refTerms returns the terms that q stands for.
func refTerms(q api.Quadric) []term {
	var terms []term
	for k, c := range q {
		terms = append(terms, term{bigOf(c), powers[k]})
	}
	return terms
}

// refQuadric returns the quadric of the sum of terms.
func refQuadric(terms []term) api.Quadric {
	var q api.Quadric
	for k := range q {
		sum := new(big.Int)
		for _, x := range terms {
			if x.powers == powers[k] {
				sum.Add(sum, x.factor)
			}
		}
		q[k] = wideOf(sum)
	}
	return q
}

func refOf(tri api.Tri) api.Quadric {
	var square []term
	plane := refPlane(tri)
	for _, x := range plane {
		for _, y := range plane {
			sum := [3]int{x.powers[0] + y.powers[0], x.powers[1] + y.powers[1], x.powers[2] + y.powers[2]}
			square = append(square, term{product(x.factor, y.factor), sum})
		}
	}
	return refQuadric(square)
}

func refSum(a, b api.Quadric) api.Quadric { return refQuadric(append(refTerms(a), refTerms(b)...)) }

func refAt(q api.Quadric, p api.Point) api.Wide { return wideOf(refValue(refTerms(q), p)) }

func refAround(l []api.Tri, p api.Point) api.Quadric {
	var terms []term
	for _, tri := range l {
		if tri[0] == p || tri[1] == p || tri[2] == p {
			terms = append(terms, refTerms(refOf(tri))...)
		}
	}
	return refQuadric(terms)
}

// The reference finds what is known.
func TestReference(t *testing.T) {
	tri := api.Tri{at(1, 0, 0), at(0, 2, 0), at(0, 0, 4)} // 8 x + 4 y + 2 z - 8
	want := withInts([10]int{64, 64, 32, -128, 16, 16, -64, 4, -32, 64})
	if got := refOf(tri); got != want {
		t.Errorf("%v: %s", tri, text(got))
	}
	if got := refAt(want, at(2, -1, 5)); got != wideOf(big64(14*14)) {
		t.Errorf("value: %s", brief(got))
	}
	if got := refSum(want, want); got != withInts([10]int{128, 128, 64, -256, 32, 32, -128, 8, -64, 128}) {
		t.Errorf("sum: %s", text(got))
	}
	if got := refAround([]api.Tri{tri, {at(1, 0, 0), at(2, 0, 0), at(0, 0, 4)}, {}}, at(0, 2, 0)); got != want {
		t.Errorf("sum at a corner: %s", text(got))
	}
}
