package witness_test

import (
	"math/big"
	"slices"

	"lithophane/api"
	"lithophane/exact"
	"lithophane/mesh"
)

// condition is one that P12.1 names behind the errors of mesh.CheckOpen.
type condition struct {
	name   string
	kind   api.Errno
	broken func(c claim) bool
}

// conditions are in the order of P12.1, each as it is written there.
func conditions() []condition {
	return []condition{
		{"borders", api.ErrBorder, func(c claim) bool { return !slices.Equal(mesh.Border(c.fine), mesh.Border(c.coarse)) }},
		{"joined", api.ErrBorder, refJoinsBorder},
		{"fans", api.ErrBorder, refFansDiffer},
		{"order", api.ErrMove, func(c claim) bool {
			return anyMove(c, func(i int, m api.Move) bool { return i > 0 && !exact.Less(c.moves[i-1].From, m.From) })
		}},
		{"from elsewhere", api.ErrMove, func(c claim) bool {
			return anyMove(c, func(i int, m api.Move) bool { return !refHasCorner(c.fine, m.From) })
		}},
		{"from the border", api.ErrMove, func(c claim) bool {
			return anyMove(c, func(i int, m api.Move) bool { return refIsBorder(c.fine, m.From) })
		}},
		{"to no corner of fine", api.ErrMove, func(c claim) bool {
			return anyMove(c, func(i int, m api.Move) bool { return !refHasCorner(c.fine, m.To) })
		}},
		{"to no corner of coarse", api.ErrMove, func(c claim) bool {
			return anyMove(c, func(i int, m api.Move) bool { return !refHasCorner(c.coarse, m.To) })
		}},
		{"to a beginning", api.ErrMove, func(c claim) bool {
			return anyMove(c, func(i int, m api.Move) bool { return refIsMoved(c, m.To) })
		}},
		{"image of three", api.ErrCover, func(c claim) bool {
			return anyImage(c, 3, func(image api.Tri) bool { return refTimes(c.coarse, image) == 0 })
		}},
		{"image of two", api.ErrCover, func(c claim) bool {
			return anyImage(c, 2, func(image api.Tri) bool {
				different := mesh.Corners([]api.Tri{image})
				return !refJoined(c.coarse, different[0], different[1])
			})
		}},
		{"image of one", api.ErrCover, func(c claim) bool {
			return anyImage(c, 1, func(image api.Tri) bool { return !refHasCorner(c.coarse, image[0]) })
		}},
		{"image of none", api.ErrCover, func(c claim) bool {
			return slices.ContainsFunc(c.coarse, func(tri api.Tri) bool { return refTimes(refImages(c), tri) == 0 })
		}},
		{"image of several", api.ErrCover, func(c claim) bool {
			return slices.ContainsFunc(c.coarse, func(tri api.Tri) bool { return refTimes(refImages(c), tri) > 1 })
		}},
		{"range", api.ErrRange, func(c claim) bool { return !refBound(c).IsInt64() }},
	}
}

// refBroken returns the names of all conditions that are broken, and the first error;
// none, if mesh.CheckOpen refuses a list.
func refBroken(c claim) ([]string, api.Errno) {
	for _, l := range [][]api.Tri{c.fine, c.coarse} {
		if kind := mesh.CheckOpen(l); kind != api.OK {
			return nil, kind
		}
	}
	var names []string
	first := api.OK
	for _, condition := range conditions() {
		if condition.broken(c) {
			names = append(names, condition.name)
			if first == api.OK {
				first = condition.kind
			}
		}
	}
	return names, first
}

// refCheck returns what Check should.
func refCheck(c claim) (int, api.Errno) {
	if _, kind := refBroken(c); kind != api.OK {
		return 0, kind
	}
	return int(refBound(c).Int64()), api.OK
}

func anyMove(c claim, is func(i int, m api.Move) bool) bool {
	for i, m := range c.moves {
		if is(i, m) {
			return true
		}
	}
	return false
}

// anyImage looks at the images of triangles that have so many different corners.
func anyImage(c claim, different int, is func(image api.Tri) bool) bool {
	return slices.ContainsFunc(refImages(c), func(image api.Tri) bool {
		return len(mesh.Corners([]api.Tri{image})) == different && is(image)
	})
}

func refImages(c claim) []api.Tri {
	return placed(c.fine, func(p api.Point) api.Point { return refImage(c, p) })
}

func refImage(c claim, p api.Point) api.Point {
	for _, m := range c.moves {
		if m.From == p {
			return m.To
		}
	}
	return p
}

func refIsMoved(c claim, p api.Point) bool {
	return slices.ContainsFunc(c.moves, func(m api.Move) bool { return m.From == p })
}

// refTimes returns how often a triangle is in a list, with any of its corners in front.
func refTimes(l []api.Tri, tri api.Tri) int {
	times := 0
	for _, other := range l {
		if mesh.Rotate(other) == mesh.Rotate(tri) {
			times++
		}
	}
	return times
}

func refHasCorner(l []api.Tri, p api.Point) bool { return refJoined(l, p, p) }

// refJoined reports whether a triangle has both corners.
func refJoined(l []api.Tri, p, q api.Point) bool {
	return slices.ContainsFunc(l, func(tri api.Tri) bool { return slices.Contains(tri[:], p) && slices.Contains(tri[:], q) })
}

func refIsBorder(l []api.Tri, p api.Point) bool {
	return slices.ContainsFunc(mesh.Border(l), func(e [2]api.Point) bool { return e[0] == p || e[1] == p })
}

// refJoinsBorder compares the corners of the border of fine, and those of coarse.
func refJoinsBorder(c claim) bool {
	for _, l := range [][]api.Tri{c.fine, c.coarse} {
		var corners []api.Point
		for _, p := range mesh.Corners(l) {
			if refIsBorder(l, p) {
				corners = append(corners, p)
			}
		}
		for _, p := range corners {
			for _, q := range corners {
				if refJoined(c.coarse, p, q) && !refJoined(c.fine, p, q) {
					return true
				}
			}
		}
	}
	return false
}

func refFansDiffer(c claim) bool {
	coarse := mesh.Border(c.coarse)
	return slices.ContainsFunc(mesh.Border(c.fine), func(e [2]api.Point) bool {
		return slices.Contains(coarse, e) && refEnd(c.fine, e) != refEnd(c.coarse, e)
	})
}

// refEnd returns the end of the fan that begins with an edge of the border.
func refEnd(l []api.Tri, e [2]api.Point) api.Point {
	p, end := e[0], e[1]
	for {
		k := slices.IndexFunc(l, func(tri api.Tri) bool { return hasEdge(tri, p, end) })
		if k < 0 {
			return end
		}
		end = l[k][(slices.Index(l[k][:], end)+1)%3]
	}
}

func hasEdge(tri api.Tri, p, q api.Point) bool {
	return tri[0] == p && tri[1] == q || tri[1] == p && tri[2] == q || tri[2] == p && tri[0] == q
}

// refBound returns the least integer that is not less than any distance.
func refBound(c claim) *big.Int {
	bound := new(big.Int)
	for _, m := range c.moves {
		square := new(big.Int)
		for _, pair := range [][2]int{{m.From.X, m.To.X}, {m.From.Y, m.To.Y}, {m.From.Z, m.To.Z}} {
			d := new(big.Int).Sub(big.NewInt(int64(pair[0])), big.NewInt(int64(pair[1])))
			square.Add(square, d.Mul(d, d))
		}
		root := new(big.Int).Sqrt(square)
		for new(big.Int).Mul(root, root).Cmp(square) < 0 {
			root.Add(root, big.NewInt(1))
		}
		if root.Cmp(bound) > 0 {
			bound = root
		}
	}
	return bound
}
