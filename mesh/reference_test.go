package mesh_test

import (
	"cmp"
	"math/big"
	"slices"

	"lithophane/api"
)

// The reference says what the document says, word by word, at any cost: it knows
// neither maps nor package exact nor package wide.

func refComparePoints(a, b api.Point) int {
	return cmp.Or(cmp.Compare(a.X, b.X), cmp.Compare(a.Y, b.Y), cmp.Compare(a.Z, b.Z))
}

func refCompareTris(s, t api.Tri) int {
	return cmp.Or(refComparePoints(s[0], t[0]), refComparePoints(s[1], t[1]), refComparePoints(s[2], t[2]))
}

func refRotate(t api.Tri) api.Tri {
	first := slices.Index(t[:], slices.MinFunc(t[:], refComparePoints))
	return api.Tri(slices.Concat(t[first:], t[:first]))
}

func refCanon(l []api.Tri) []api.Tri {
	var all []api.Tri
	for _, t := range l {
		all = append(all, refRotate(t))
	}
	slices.SortFunc(all, refCompareTris)
	return all
}

func refCorners(l []api.Tri) []api.Point {
	var all []api.Point
	for _, t := range l {
		all = append(all, t[:]...)
	}
	slices.SortFunc(all, refComparePoints)
	return slices.Compact(all)
}

// refEdges returns the directed edges of t.
func refEdges(t api.Tri) [][2]api.Point {
	return [][2]api.Point{{t[0], t[1]}, {t[1], t[2]}, {t[2], t[0]}}
}

func hasEdge(t api.Tri, from, to api.Point) bool {
	return slices.Contains(refEdges(t), [2]api.Point{from, to})
}

func refBorder(l []api.Tri) [][2]api.Point {
	var all [][2]api.Point
	for _, t := range l {
		for _, e := range refEdges(t) {
			opposite := func(s api.Tri) bool { return hasEdge(s, e[1], e[0]) }
			if !slices.Contains(all, e) && !slices.ContainsFunc(l, opposite) {
				all = append(all, e)
			}
		}
	}
	slices.SortFunc(all, func(a, b [2]api.Point) int {
		return cmp.Or(refComparePoints(a[0], b[0]), refComparePoints(a[1], b[1]))
	})
	return all
}

func refCheck(l []api.Tri, closed bool) api.Errno {
	for _, t := range l {
		if len(refCorners([]api.Tri{t})) < 3 {
			return api.ErrCorner
		}
	}
	for i, s := range l {
		for _, t := range l[:i] {
			if slices.ContainsFunc(refEdges(s), func(e [2]api.Point) bool { return hasEdge(t, e[0], e[1]) }) {
				return api.ErrEdge
			}
		}
	}
	if closed && len(refBorder(l)) > 0 {
		return api.ErrOpen
	}
	for _, p := range refCorners(l) {
		if refPinch(p, l) {
			return api.ErrPinch
		}
	}
	return api.OK
}

// refPinch tells whether at p there is a ring, and a triangle beside it.
func refPinch(p api.Point, l []api.Tri) bool {
	var star []api.Tri
	for _, t := range l {
		if slices.Contains(t[:], p) {
			star = append(star, t)
		}
	}
	for i := range star {
		if n := refRing(p, star, []int{i}); n > 0 && n < len(star) {
			return true
		}
	}
	return false
}

// refRing returns the number of triangles of a ring that begins with the path,
// which are numbers of triangles at p, or 0 if there is none.
func refRing(p api.Point, star []api.Tri, path []int) int {
	last := star[path[len(path)-1]]
	if follows(p, star[path[0]], last) {
		return len(path)
	}
	for i, t := range star {
		if !slices.Contains(path, i) && follows(p, t, last) {
			if n := refRing(p, star, append(slices.Clone(path), i)); n > 0 {
				return n
			}
		}
	}
	return 0
}

// follows tells whether t is p, a, b and s is p, c, a.
func follows(p api.Point, t, s api.Tri) bool {
	for i := range 3 {
		for j := range 3 {
			if t[i] == p && s[j] == p && t[(i+1)%3] == s[(j+2)%3] {
				return true
			}
		}
	}
	return false
}

func refNeighbours(s, t api.Tri) bool {
	return slices.ContainsFunc(refEdges(s), func(e [2]api.Point) bool { return hasEdge(t, e[1], e[0]) })
}

func refParts(l []api.Tri) [][]api.Tri {
	var parts [][]api.Tri
	rest := refCanon(l)
	for len(rest) > 0 {
		part := []api.Tri{rest[0]}
		rest = rest[1:]
		for i := 0; i < len(part); i++ {
			belongs := func(t api.Tri) bool { return t == part[i] || refNeighbours(t, part[i]) }
			for _, t := range rest {
				if belongs(t) {
					part = append(part, t)
				}
			}
			rest = slices.DeleteFunc(rest, belongs)
		}
		parts = append(parts, refCanon(part))
	}
	return parts
}

func refEuler(l []api.Tri) int {
	var pairs [][2]api.Point
	for _, t := range l {
		for _, e := range refEdges(t) {
			if !slices.Contains(pairs, e) && !slices.Contains(pairs, [2]api.Point{e[1], e[0]}) {
				pairs = append(pairs, e)
			}
		}
	}
	return len(refCorners(l)) - len(pairs) + len(l)
}

// refVolume6 expands each determinant by all permutations of the columns.
func refVolume6(l []api.Tri) *big.Int {
	sum := new(big.Int)
	for _, t := range l {
		for _, c := range [][4]int{{0, 1, 2, 1}, {1, 2, 0, 1}, {2, 0, 1, 1}, {0, 2, 1, -1}, {1, 0, 2, -1}, {2, 1, 0, -1}} {
			product := big.NewInt(int64(c[3]))
			for i, p := range t {
				product.Mul(product, big.NewInt(int64([]int{p.X, p.Y, p.Z}[c[i]])))
			}
			sum.Add(sum, product)
		}
	}
	return sum
}

// wideOf returns the canonical Wide with the value n.
func wideOf(n *big.Int) api.Wide { return api.Wide{Neg: n.Sign() < 0, Mag: string(n.Bytes())} }
