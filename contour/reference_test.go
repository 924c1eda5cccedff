package contour_test

import (
	"cmp"
	"slices"

	"lithophane/api"
)

// refContour follows the document word by word.
func refContour(f api.Field) []api.Tri {
	if !refIsValid(f) {
		return nil
	}
	var l []api.Tri
	for _, v := range vertices(0, cells(f.Level)-1) {
		if c := newRefCell(f, v); len(c.crossings) > 0 {
			for _, cycle := range c.cycles() {
				l = append(l, refTriangles(cycle)...)
			}
		}
	}
	return refCanon(l)
}

func refIsValid(f api.Field) bool {
	if f.Level < 1 || f.Level > 8 {
		return false
	}
	n := 1 << f.Level
	if len(f.In) != (n+1)*(n+1)*(n+1) {
		return false
	}
	for _, v := range vertices(0, n) {
		if isInside(f, v) && v.isAtBorder(n) {
			return false
		}
	}
	return true
}

// refCell is a cell of a field, with the crossings of its edges.
type refCell struct {
	field     api.Field
	least     vertex
	crossings []refCrossing
}

// refCrossing is the crossing of the edge with these ends.
type refCrossing struct {
	ends [2]vertex
	at   api.Point
}

// refFace is the face of a cell whose vertices have the coordinate along the axis.
type refFace struct {
	axis, coordinate int
	outward          [3]int
}

func newRefCell(f api.Field, least vertex) refCell {
	c := refCell{field: f, least: least}
	for number := range 8 {
		v := least.plus(0, number%2).plus(1, number/2%2).plus(2, number/4)
		for axis := range 3 {
			if w := v.plus(axis, 1); v[axis] == least[axis] && isInside(f, v) != isInside(f, w) {
				c.crossings = append(c.crossings, refCrossing{[2]vertex{v, w}, crossing(f.Level, v, axis)})
			}
		}
	}
	return c
}

func (c refCell) faces() []refFace {
	var all []refFace
	for axis, x := range c.least {
		var normal [3]int
		normal[axis] = 1
		greater := refFace{axis, x + 1, normal}
		normal[axis] = -1
		all = append(all, refFace{axis, x, normal}, greater)
	}
	return all
}

// insideVertices returns those of a face.
func (c refCell) insideVertices(f refFace) []vertex {
	var all []vertex
	for _, v := range vertices(0, 1) {
		if w := c.least.add(v); w[f.axis] == f.coordinate && isInside(c.field, w) {
			all = append(all, w)
		}
	}
	return all
}

func (c refCell) crossingsOn(f refFace) []refCrossing {
	var on []refCrossing
	for _, p := range c.crossings {
		if p.ends[0][f.axis] == f.coordinate && p.ends[1][f.axis] == f.coordinate {
			on = append(on, p)
		}
	}
	return on
}

// deciding returns the inside vertices that decide in which direction two crossings
// of a face are joined; there are none if they are not.
func (c refCell) deciding(f refFace, p, q refCrossing) []vertex {
	inside := c.insideVertices(f)
	if len(c.crossingsOn(f)) == 4 {
		isElsewhere := func(v vertex) bool { return !slices.Contains(p.ends[:], v) || !slices.Contains(q.ends[:], v) }
		inside = slices.DeleteFunc(inside, isElsewhere)
	}
	return inside
}

// isJoined reports whether p is joined to q on the face.
func (c refCell) isJoined(f refFace, p, q refCrossing) bool {
	var negative, others int
	for _, v := range c.deciding(f, p, q) {
		d := determinant(vector(p.at, q.at), vector(p.at, v.point(c.field.Level)), f.outward)
		add(&negative, d < 0)
		add(&others, d >= 0)
	}
	if negative > 0 && others > 0 {
		panic("vertices on both sides")
	}
	return negative > 0
}

func vector(from, to api.Point) [3]int { return [3]int{to.X - from.X, to.Y - from.Y, to.Z - from.Z} }

func determinant(a, b, c [3]int) int {
	return a[0]*(b[1]*c[2]-c[1]*b[2]) + a[1]*(b[2]*c[0]-c[2]*b[0]) + a[2]*(b[0]*c[1]-c[0]*b[1])
}

// joins returns all pairs of crossings of which the first one is joined to the second.
func (c refCell) joins() [][2]api.Point {
	var pairs [][2]api.Point
	for _, f := range c.faces() {
		on := c.crossingsOn(f)
		for _, p := range on {
			for _, q := range on {
				if p != q && c.isJoined(f, p, q) {
					pairs = append(pairs, [2]api.Point{p.at, q.at})
				}
			}
		}
	}
	return pairs
}

func (c refCell) cycles() [][]api.Point {
	pairs := c.joins()
	following := func(p api.Point) api.Point {
		var all []api.Point
		for _, pair := range pairs {
			if pair[0] == p {
				all = append(all, pair[1])
			}
		}
		if len(all) != 1 {
			panic("not joined to one other crossing")
		}
		return all[0]
	}
	var cycles [][]api.Point
	for _, p := range c.crossings {
		if slices.ContainsFunc(cycles, func(cycle []api.Point) bool { return slices.Contains(cycle, p.at) }) {
			continue
		}
		cycle := []api.Point{p.at}
		for q := following(p.at); q != p.at; q = following(q) {
			cycle = append(cycle, q)
		}
		cycles = append(cycles, cycle)
	}
	return cycles
}

func refTriangles(cycle []api.Point) []api.Tri {
	if len(cycle) == 3 {
		return []api.Tri{{cycle[0], cycle[1], cycle[2]}}
	}
	var sum [3]int
	for _, p := range cycle {
		sum = [3]int{sum[0] + p.X, sum[1] + p.Y, sum[2] + p.Z}
	}
	m := len(cycle)
	centre := at(sum[0]/m, sum[1]/m, sum[2]/m)
	l := []api.Tri{{cycle[m-1], cycle[0], centre}}
	for k := range m - 1 {
		l = append(l, api.Tri{cycle[k], cycle[k+1], centre})
	}
	return l
}

// refCanon returns the triangles with the least corner in front, in order.
func refCanon(l []api.Tri) []api.Tri {
	all := slices.Clone(l)
	for i := range all {
		for range 2 {
			if t := all[i]; refCompare(t[1], t[0]) < 0 || refCompare(t[2], t[0]) < 0 {
				all[i] = api.Tri{t[1], t[2], t[0]}
			}
		}
	}
	slices.SortFunc(all, func(s, t api.Tri) int {
		return cmp.Or(refCompare(s[0], t[0]), refCompare(s[1], t[1]), refCompare(s[2], t[2]))
	})
	return all
}

func refCompare(p, q api.Point) int {
	return cmp.Or(cmp.Compare(p.X, q.X), cmp.Compare(p.Y, q.Y), cmp.Compare(p.Z, q.Z))
}
