package subdivide_test

import (
	"math/big"
	"slices"

	"lithophane/api"
	"lithophane/mesh"
)

// The reference says what the document says, word by word, at any cost: it knows
// no maps, and its numbers are of any size.

// refPoint holds the coordinates of a point.
type refPoint [3]*big.Int

func refPointOf(p api.Point) refPoint {
	return refPoint{big.NewInt(int64(p.X)), big.NewInt(int64(p.Y)), big.NewInt(int64(p.Z))}
}

// point returns p, whose coordinates are ints.
func (p refPoint) point() api.Point {
	for _, x := range p {
		if !x.IsInt64() {
			panic("not an int")
		}
	}
	return at(int(p[0].Int64()), int(p[1].Int64()), int(p[2].Int64()))
}

// plus returns p + factor * q.
func (p refPoint) plus(factor int, q refPoint) refPoint {
	var sum refPoint
	for axis := range sum {
		product := new(big.Int).Mul(big.NewInt(int64(factor)), q[axis])
		sum[axis] = product.Add(product, p[axis])
	}
	return sum
}

// over returns p / n, and whether its coordinates are integers.
func (p refPoint) over(n int) (refPoint, bool) {
	isExact := true
	var quotient refPoint
	for axis := range quotient {
		rest := new(big.Int)
		quotient[axis], rest = new(big.Int).QuoRem(p[axis], big.NewInt(int64(n)), rest)
		isExact = isExact && rest.Sign() == 0
	}
	return quotient, isExact
}

func (p refPoint) isWithin(least, most int) bool {
	return !slices.ContainsFunc(p[:], func(x *big.Int) bool {
		return x.Cmp(big.NewInt(int64(least))) < 0 || x.Cmp(big.NewInt(int64(most))) > 0
	})
}

// refMesh is a mesh before or behind a step.
type refMesh struct {
	points  []refPoint
	tris    [][3]int
	creases [][2]int
	corners []int
}

// third returns the third corner of the triangle with the directed edge from a to b.
func (m refMesh) third(a, b int) int {
	for _, t := range m.tris {
		for i := range t {
			if t[i] == a && t[(i+1)%3] == b {
				return t[(i+2)%3]
			}
		}
	}
	panic("no triangle has the edge")
}

func (m refMesh) isCrease(a, b int) bool {
	return slices.Contains(m.creases, [2]int{a, b}) || slices.Contains(m.creases, [2]int{b, a})
}

// otherEnd returns the other end of the other crease at a, or a itself.
func (m refMesh) otherEnd(a, b int) int {
	var others []int
	for _, crease := range m.creases {
		for i := range crease {
			if other := crease[1-i]; crease[i] == a && other != b && !slices.Contains(others, other) {
				others = append(others, other)
			}
		}
	}
	if slices.Contains(m.corners, a) || len(others) != 1 {
		return a
	}
	return others[0]
}

// sixteenfold returns the new point of a and b without detail, times 16.
func (m refMesh) sixteenfold(a, b int) refPoint {
	sum := refPointOf(api.Point{})
	if m.isCrease(a, b) {
		p, q := m.otherEnd(a, b), m.otherEnd(b, a)
		return sum.plus(9, m.points[a]).plus(9, m.points[b]).plus(-1, m.points[p]).plus(-1, m.points[q])
	}
	c, d := m.third(a, b), m.third(b, a)
	sum = sum.plus(8, m.points[a]).plus(8, m.points[b]).plus(2, m.points[c]).plus(2, m.points[d])
	for _, pair := range [][2]int{{b, c}, {c, a}, {a, d}, {d, b}} {
		sum = sum.plus(-1, m.points[m.third(pair[1], pair[0])])
	}
	return sum
}

// refCut returns the number of points behind a step, and its triangles.
func refCut(points int, tris [][3]int) (int, [][3]int) {
	pairs := joined(tris)
	var finer [][3]int
	for _, t := range tris {
		var n [3]int
		for i := range t {
			a, b := t[i], t[(i+1)%3]
			n[i] = points + refIndex(pairs, min(a, b), max(a, b))
		}
		a, b, c, x, y, z := t[0], t[1], t[2], n[0], n[1], n[2]
		finer = append(finer, [][3]int{{a, x, z}, {x, b, y}, {z, y, c}, {x, y, z}}...)
	}
	return points + len(pairs), finer
}

func refIndex(pairs [][2]int, a, b int) int {
	i, found := slices.BinarySearchFunc(pairs, [2]int{a, b}, func(p, q [2]int) int { return slices.Compare(p[:], q[:]) })
	if !found {
		panic("no such pair")
	}
	return i
}

// finer returns the mesh behind a step, with these new points.
func (m refMesh) finer(added []refPoint) refMesh {
	pairs := joined(m.tris)
	_, tris := refCut(len(m.points), m.tris)
	next := refMesh{points: slices.Concat(m.points, added), tris: tris, corners: m.corners}
	for _, crease := range m.creases {
		x := len(m.points) + refIndex(pairs, min(crease[0], crease[1]), max(crease[0], crease[1]))
		next.creases = append(next.creases, [2]int{crease[0], x}, [2]int{x, crease[1]})
	}
	return next
}

func refDetail(c api.Control, k, i int) api.Point {
	if k >= len(c.Details) || i >= len(c.Details[k]) {
		return api.Point{}
	}
	return c.Details[k][i]
}

// refFine returns the mesh behind the last step of a right control mesh.
func refFine(c api.Control) refMesh {
	m := refMesh{tris: c.Tris, creases: c.Creases, corners: c.Corners}
	for _, p := range c.Points {
		m.points = append(m.points, refPointOf(api.Point{}).plus(power(c.Steps), refPointOf(p)))
	}
	for k := range c.Steps {
		var added []refPoint
		for i, pair := range joined(m.tris) {
			p, isExact := m.sixteenfold(pair[0], pair[1]).over(16)
			if !isExact {
				panic("a division is not exact")
			}
			added = append(added, p.plus(power(c.Steps-1-k), refPointOf(refDetail(c, k, i))))
		}
		m = m.finer(added)
	}
	return m
}

func (m refMesh) places() []api.Point {
	var all []api.Point
	for _, p := range m.points {
		all = append(all, p.point())
	}
	return all
}

// refError returns the error of c.
func refError(c api.Control) api.Errno {
	if c.Steps < 0 || c.Steps > 4 || len(c.Details) > c.Steps {
		return api.ErrArg
	}
	numbers := slices.Clone(c.Corners)
	for _, t := range c.Tris {
		numbers = append(numbers, t[:]...)
	}
	for _, crease := range c.Creases {
		numbers = append(numbers, crease[:]...)
	}
	if slices.ContainsFunc(numbers, func(n int) bool { return n < 0 || n >= len(c.Points) }) {
		return api.ErrIndex
	}
	if err := mesh.Check(refLine(c.Tris)); err != api.OK {
		return err
	}
	pairs := joined(c.Tris)
	for _, crease := range c.Creases {
		if !slices.Contains(pairs, [2]int{min(crease[0], crease[1]), max(crease[0], crease[1])}) {
			return api.ErrForm
		}
	}
	return refSizeError(c)
}

// refLine returns the triangles, where each number n stands for the point (n, 0, 0).
func refLine(tris [][3]int) []api.Tri {
	var l []api.Tri
	for _, t := range tris {
		l = append(l, api.Tri{at(t[0], 0, 0), at(t[1], 0, 0), at(t[2], 0, 0)})
	}
	return l
}

// refSizeError returns ErrMany, ErrRange, or OK.
func refSizeError(c api.Control) api.Errno {
	if len(c.Tris) > []int{65536, 16384, 4096, 1024, 256}[c.Steps] {
		return api.ErrMany
	}
	points, tris := len(c.Points), c.Tris
	for _, list := range c.Details {
		if len(list) > len(joined(tris)) {
			return api.ErrMany
		}
		points, tris = refCut(points, tris)
	}
	isFar := slices.ContainsFunc(c.Points, func(p api.Point) bool { return !refPointOf(p).isWithin(0, greatest(c.Steps)) })
	for _, list := range c.Details {
		isFar = isFar || slices.ContainsFunc(list, func(p api.Point) bool { return !refPointOf(p).isWithin(-2097151, 2097151) })
	}
	if isFar {
		return api.ErrRange
	}
	return api.OK
}

// refSubdivide returns the results of Subdivide.
func refSubdivide(c api.Control) ([]api.Tri, api.Errno) {
	if err := refError(c); err != api.OK {
		return nil, err
	}
	m := refFine(c)
	if slices.ContainsFunc(m.points, func(p refPoint) bool { return !p.isWithin(0, 2097151) }) {
		return nil, api.ErrRange
	}
	points := m.places()
	var corners []int
	var l []api.Tri
	for _, t := range m.tris {
		corners = append(corners, t[:]...)
		l = append(l, api.Tri{points[t[0]], points[t[1]], points[t[2]]})
	}
	slices.Sort(corners)
	corners = slices.Compact(corners)
	var places []api.Point
	for _, n := range corners {
		places = append(places, points[n])
	}
	slices.SortFunc(places, func(p, q api.Point) int {
		return slices.Compare([]int{p.X, p.Y, p.Z}, []int{q.X, q.Y, q.Z})
	})
	if len(slices.Compact(places)) < len(corners) {
		return nil, api.ErrTwice
	}
	return mesh.Canon(l), api.OK
}

// refAnalyse returns the results of Analyse.
func refAnalyse(c api.Control, fine []api.Point) (api.Control, api.Errno) {
	c = cloned(c)
	c.Points, c.Details = make([]api.Point, len(c.Points)), nil
	if err := refError(c); err != api.OK {
		return api.Control{}, err
	}
	if len(fine) != len(refFine(c).points) {
		return api.Control{}, api.ErrArg
	}
	m := refMesh{tris: c.Tris, creases: c.Creases, corners: c.Corners}
	areIntegers, areNear := true, true
	read := func(p refPoint, divisor, least, most int) api.Point {
		quotient, isExact := p.over(divisor)
		areIntegers = areIntegers && isExact
		areNear = areNear && quotient.isWithin(least, most)
		if !areNear {
			return api.Point{}
		}
		return quotient.point()
	}
	for i := range c.Points {
		m.points = append(m.points, refPointOf(fine[i]))
		c.Points[i] = read(m.points[i], power(c.Steps), 0, greatest(c.Steps))
	}
	for k := range c.Steps {
		var list []api.Point
		var added []refPoint
		for i, pair := range joined(m.tris) {
			added = append(added, refPointOf(fine[len(m.points)+i]))
			rest := refPointOf(api.Point{}).plus(16, added[i]).plus(-1, m.sixteenfold(pair[0], pair[1]))
			list = append(list, read(rest, 16*power(c.Steps-1-k), -2097151, 2097151))
		}
		c.Details = append(c.Details, list)
		m = m.finer(added)
	}
	switch {
	case !areIntegers:
		return api.Control{}, api.ErrForm
	case !areNear:
		return api.Control{}, api.ErrRange
	}
	return c, api.OK
}
