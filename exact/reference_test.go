package exact_test

import (
	"math/big"

	"lithophane/api"
)

// The reference computes with math/big, and finds common points by linear
// programming, which knows nothing of planes, sides and special cases.

// bigVector is a vector with components of any size.
type bigVector [3]*big.Int

func bigPoint(p api.Point) bigVector {
	return bigVector{big.NewInt(int64(p.X)), big.NewInt(int64(p.Y)), big.NewInt(int64(p.Z))}
}

func bigBetween(a, b api.Point) bigVector {
	v, w := bigPoint(a), bigPoint(b)
	for i := range v {
		v[i].Sub(w[i], v[i])
	}
	return v
}

func (v bigVector) negative() bigVector {
	return bigVector{new(big.Int).Neg(v[0]), new(big.Int).Neg(v[1]), new(big.Int).Neg(v[2])}
}

func (v bigVector) dot(w bigVector) *big.Int {
	sum := new(big.Int)
	for i := range v {
		sum.Add(sum, new(big.Int).Mul(v[i], w[i]))
	}
	return sum
}

// bigNormal returns the vector product of the vectors from the first corner.
func bigNormal(t api.Tri) bigVector {
	v, w := bigBetween(t[0], t[1]), bigBetween(t[0], t[2])
	minor := func(i, j int) *big.Int {
		n := new(big.Int).Mul(v[i], w[j])
		return n.Sub(n, new(big.Int).Mul(v[j], w[i]))
	}
	return bigVector{minor(1, 2), minor(2, 0), minor(0, 1)}
}

func bigFlat(t api.Tri) bool {
	n := bigNormal(t)
	return n[0].Sign() == 0 && n[1].Sign() == 0 && n[2].Sign() == 0
}

// bigOrient expands the determinant by all permutations of the columns.
func bigOrient(a, b, c, d api.Point) int {
	u, v, w := bigBetween(a, b), bigBetween(a, c), bigBetween(a, d)
	sum := new(big.Int)
	for _, x := range [][4]int{{0, 1, 2, 1}, {1, 2, 0, 1}, {2, 0, 1, 1}, {0, 2, 1, -1}, {1, 0, 2, -1}, {2, 1, 0, -1}} {
		product := new(big.Int).Mul(u[x[0]], v[x[1]])
		product.Mul(product, w[x[2]])
		sum.Add(sum, product.Mul(product, big.NewInt(int64(x[3]))))
	}
	return sum.Sign()
}

// wideOf returns the canonical Wide with the value n.
func wideOf(n *big.Int) api.Wide { return api.Wide{Neg: n.Sign() < 0, Mag: string(n.Bytes())} }

// column returns the components of v and further numbers.
func column(v bigVector, more ...int64) []*big.Int {
	all := append([]*big.Int{}, v[:]...)
	for _, n := range more {
		all = append(all, big.NewInt(n))
	}
	return all
}

func numbers(all ...int64) []*big.Int { return column(bigVector{}, all...)[3:] }

// haveCommonPoint tells whether the convex hulls of both lists of points have a
// common point: a mean of the points of one list that is one of the other's.
func haveCommonPoint(a, b []api.Point) bool {
	var columns [][]*big.Int
	for _, p := range a {
		columns = append(columns, column(bigPoint(p), 1, 0))
	}
	for _, p := range b {
		columns = append(columns, column(bigPoint(p).negative(), 0, 1))
	}
	return feasible(columns, numbers(0, 0, 0, 1, 1))
}

// haveCommonRay tells whether the triangles, which have only the corner c in
// common and are not flat, have another common point: some point of the edge
// from p to q that is, seen from c, in the same direction as one from r to s.
func haveCommonRay(c, p, q, r, s api.Point) bool {
	return feasible([][]*big.Int{
		column(bigBetween(c, p), 1), column(bigBetween(c, q), 1),
		column(bigBetween(r, c), 0), column(bigBetween(s, c), 0),
	}, numbers(0, 0, 0, 1))
}

// haveCommonHalfPlane tells whether c d p and c d q, which are not flat, have a
// common point that is not on the edge from c to d: p is moved along it to the
// other side, or the same one.
func haveCommonHalfPlane(c, d, p, q api.Point) bool {
	return feasible([][]*big.Int{
		column(bigBetween(c, p), 1), column(bigBetween(q, c), 0),
		column(bigBetween(c, d), 0), column(bigBetween(d, c), 0),
	}, numbers(0, 0, 0, 1))
}

// feasible tells whether the columns, with weights that are not negative, add
// up to want, which is not negative: the simplex method, by Bland's rule. It
// begins with artificial columns, and is done when these have no weight.
func feasible(columns [][]*big.Int, want []*big.Int) bool {
	artificial := len(columns)
	rows, total := firstRows(append(columns, want))
	basis := make([]int, len(rows))
	for i := range basis {
		basis[i] = artificial + i
	}
	for {
		enter := 0
		for enter < artificial && total[enter].Sign() <= 0 {
			enter++
		}
		if enter == artificial {
			return total[artificial].Sign() == 0
		}
		leave := leavingRow(rows, basis, enter)
		pivot(rows, total, leave, enter)
		basis[leave] = enter
	}
}

// firstRows returns the rows of the columns, and their sum.
func firstRows(columns [][]*big.Int) (rows [][]*big.Rat, total []*big.Rat) {
	rows = make([][]*big.Rat, len(columns[0]))
	for _, c := range columns {
		sum := new(big.Rat)
		for i, n := range c {
			x := new(big.Rat).SetInt(n)
			rows[i] = append(rows[i], x)
			sum.Add(sum, x)
		}
		total = append(total, sum)
	}
	return rows, total
}

// leavingRow returns the row that limits the weight of column enter the most.
func leavingRow(rows [][]*big.Rat, basis []int, enter int) int {
	leave, least := -1, new(big.Rat)
	for i, row := range rows {
		if row[enter].Sign() <= 0 {
			continue
		}
		limit := new(big.Rat).Quo(row[len(row)-1], row[enter])
		if order := limit.Cmp(least); leave < 0 || order < 0 || order == 0 && basis[i] < basis[leave] {
			leave, least = i, limit
		}
	}
	return leave
}

// pivot makes column enter that of row leave alone.
func pivot(rows [][]*big.Rat, total []*big.Rat, leave, enter int) {
	factor := new(big.Rat).Inv(rows[leave][enter])
	for _, x := range rows[leave] {
		x.Mul(x, factor)
	}
	for i, row := range append(rows[:len(rows):len(rows)], total) {
		if i == leave || row[enter].Sign() == 0 {
			continue
		}
		factor.Set(row[enter])
		for j, x := range row {
			x.Sub(x, new(big.Rat).Mul(factor, rows[leave][j]))
		}
	}
}
