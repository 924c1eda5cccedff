package mesh_test

import (
	"slices"
	"testing"

	"lithophane/api"
)

// P4.5: lists without errors.
func TestP4_5Closed(t *testing.T) {
	for _, l := range [][]api.Tri{nil, {}, tetrahedron(), turned(tetrahedron()), tris(x, y, z, x, z, y), tris(x, y, z, z, y, x),
		append(tetrahedron(), moved(tetrahedron(), at(5, 0, 0))...), solid(o), doubleCone(3), torus(3, 3)} {
		checks(t, l, api.OK, api.OK)
	}
}

// P4.5: a triangle with two or three equal corners, wherever they are, and whatever else is there.
func TestP4_5Corner(t *testing.T) {
	for _, bad := range []api.Tri{{x, x, y}, {x, y, x}, {y, x, x}, {x, x, x}, {}} {
		for _, l := range kinds() {
			checks(t, slices.Insert(slices.Clone(l), 0, bad), api.ErrCorner, api.ErrCorner)
			checks(t, slices.Insert(slices.Clone(l), len(l)/2, bad), api.ErrCorner, api.ErrCorner)
			checks(t, slices.Insert(slices.Clone(l), len(l), bad), api.ErrCorner, api.ErrCorner)
		}
	}
}

// P4.5: a directed edge in two triangles: equal, rotated, and different ones.
func TestP4_5Edge(t *testing.T) {
	for _, l := range [][]api.Tri{
		tris(x, y, z, x, y, z), tris(x, y, z, y, z, x), tris(x, y, z, z, x, y), tris(o, x, y, o, x, z), tris(o, x, y, z, o, x), tris(o, x, y, x, z, o),
		tris(o, y, x, o, x, z, o, z, y, x, z, y), // the last triangle of the tetrahedron is turned
		tris(o, y, x, o, z, x, o, z, y, x, y, z),
		append(tetrahedron(), tetrahedron()...), append(tetrahedron(), tetrahedron()[3]), append(tris(x, y, z), tetrahedron()...),
		append(tetrahedron(), api.Tri{o, y, at(9, 9, 9)}),
		solid(o, at(1, 1, 0)), // cubes with a common edge
	} {
		checks(t, l, api.ErrEdge, api.ErrEdge)
	}
}

// P4.5: an open list is an error for Check alone.
func TestP4_5Open(t *testing.T) {
	far := at(5, 5, 5)
	for _, l := range [][]api.Tri{
		tetrahedron()[:3], tetrahedron()[:2], tetrahedron()[:1], tris(x, y, z), tris(x, y, z, x, z, o), tris(x, y, z, o, x, z), strip(5), ring(o, 4), solid(o)[1:],
		append(tetrahedron(), moved(tris(x, y, z), far)...), // one of two parts is open
		append(tris(x, y, z), moved(tetrahedron(), far)...),
		tris(o, x, y, o, at(-1, 0, 0), at(0, -1, 0)), // a common corner
	} {
		checks(t, l, api.ErrOpen, api.OK)
	}
}

// P4.5: of several errors, the first kind is returned, wherever the triangles are.
func TestP4_5FirstError(t *testing.T) {
	pinch := append(tetrahedron(), mirrored(tetrahedron())...)
	open := tris(at(7, 0, 0), at(8, 0, 0), at(7, 1, 0))
	edge := tris(at(0, 7, 0), at(1, 7, 0), at(0, 8, 0), at(0, 7, 0), at(1, 7, 0), at(0, 7, 1))
	corner := tris(at(0, 0, 7), at(0, 0, 8), at(0, 0, 7))
	g := generator(5)
	for _, c := range []struct {
		lists        [][]api.Tri
		closed, open api.Errno
	}{
		{[][]api.Tri{pinch}, api.ErrPinch, api.ErrPinch}, {[][]api.Tri{open}, api.ErrOpen, api.OK}, {[][]api.Tri{edge}, api.ErrEdge, api.ErrEdge},
		{[][]api.Tri{pinch, open}, api.ErrOpen, api.ErrPinch}, {[][]api.Tri{pinch, edge}, api.ErrEdge, api.ErrEdge}, {[][]api.Tri{open, edge}, api.ErrEdge, api.ErrEdge},
		{[][]api.Tri{pinch, open, edge}, api.ErrEdge, api.ErrEdge}, {[][]api.Tri{pinch, corner}, api.ErrCorner, api.ErrCorner},
		{[][]api.Tri{open, corner}, api.ErrCorner, api.ErrCorner}, {[][]api.Tri{edge, corner}, api.ErrCorner, api.ErrCorner},
		{[][]api.Tri{pinch, open, edge, corner}, api.ErrCorner, api.ErrCorner},
	} {
		l := slices.Concat(c.lists...)
		for range 10 {
			checks(t, l, c.closed, c.open)
			l = g.shuffled(l)
		}
	}
}

// around returns triangles at the origin: rings and fans of so many triangles, without
// common corners beside the origin.
func around(rings, fans []int) []api.Tri {
	var l []api.Tri
	corners := 0
	for _, triangles := range rings {
		l = append(l, placed(ring(o, triangles), func(p api.Point) api.Point { return shifted(p, corners) })...)
		corners += triangles
	}
	for _, triangles := range fans {
		l = append(l, placed(ring(o, triangles+1)[:triangles], func(p api.Point) api.Point { return shifted(p, corners) })...)
		corners += triangles + 1
	}
	return l
}

// shifted moves all points but the origin.
func shifted(p api.Point, by int) api.Point {
	if p == o {
		return o
	}
	return sum(p, at(0, by, 0))
}

// P4.5: a ring and any further triangle at a corner are a pinch; fans without a ring are none.
func TestP4_5Around(t *testing.T) {
	g := generator(6)
	for _, c := range []struct {
		rings, fans []int
		want        api.Errno
	}{
		{[]int{2}, nil, api.OK}, {[]int{3}, nil, api.OK}, {[]int{4}, nil, api.OK}, {[]int{100}, nil, api.OK},
		{nil, []int{1}, api.OK}, {nil, []int{5}, api.OK}, {nil, []int{1, 1}, api.OK}, {nil, []int{3, 4}, api.OK}, {nil, []int{1, 2, 3, 4}, api.OK},
		{[]int{3}, []int{1}, api.ErrPinch}, {[]int{4}, []int{1}, api.ErrPinch}, {[]int{100}, []int{1}, api.ErrPinch}, {[]int{2}, []int{1}, api.ErrPinch},
		{[]int{3}, []int{3}, api.ErrPinch}, {[]int{4}, []int{2, 9}, api.ErrPinch}, {[]int{3}, []int{100}, api.ErrPinch}, {[]int{1000}, []int{1, 1}, api.ErrPinch},
		{[]int{3, 3}, nil, api.ErrPinch}, {[]int{2, 2}, nil, api.ErrPinch}, {[]int{3, 100}, nil, api.ErrPinch}, {[]int{2, 3, 4}, []int{1}, api.ErrPinch},
	} {
		l := around(c.rings, c.fans)
		closed := c.want
		if len(refBorder(l)) > 0 {
			closed = api.ErrOpen
		}
		for range 10 {
			checks(t, l, closed, c.want)
			checks(t, turned(l), closed, c.want)
			l = g.shuffled(l)
		}
	}
}

// P4.5: closed lists with two rings at one corner: of several parts, and of one.
func TestP4_5ClosedPinch(t *testing.T) {
	loop := []api.Point{o, at(0, 0, -1), at(0, 0, -2), at(1, 0, -2), at(2, 0, -2), at(3, 0, -2), at(3, 0, -1),
		at(3, 0, 0), at(3, 0, 1), at(3, 1, 1), at(2, 1, 1), at(1, 1, 1)} // the first and the last one have a common corner
	checks(t, solid(loop...), api.ErrPinch, api.ErrPinch)
	checks(t, solid(loop[1:]...), api.OK, api.OK)
	wants(t, "number of parts", nil, len(refParts(solid(loop...))), 1)
	for _, l := range [][]api.Tri{
		append(tetrahedron(), mirrored(tetrahedron())...), append(tetrahedron(), turned(mirrored(tetrahedron()))...),
		append(doubleCone(3), mirrored(doubleCone(5))...), append(doubleCone(30), mirrored(tetrahedron())...),
		append(tris(o, x, y, o, y, x), mirrored(tetrahedron())...), tris(o, x, y, o, y, x, o, z, at(0, 2, 0), o, at(0, 2, 0), z),
		solid(o, at(1, 1, 1)), append(solid(o), solid(at(1, 1, 1))...),
	} {
		checks(t, l, api.ErrPinch, api.ErrPinch)
	}
}

// P4.5: many lists, of which enough have each of the errors.
func TestP4_5CheckOfMany(t *testing.T) {
	seen := map[[2]api.Errno]int{}
	forLists(1500, func(g *generator, l []api.Tri) {
		closed, open := refCheck(l, true), refCheck(l, false)
		seen[[2]api.Errno{closed, open}]++
		checks(t, l, closed, open)
	})
	for _, kinds := range [][2]api.Errno{{api.OK, api.OK}, {api.ErrCorner, api.ErrCorner}, {api.ErrEdge, api.ErrEdge}, {api.ErrOpen, api.OK},
		{api.ErrOpen, api.ErrPinch}, {api.ErrPinch, api.ErrPinch}} {
		if seen[kinds] < 50 {
			t.Errorf("only %d lists with the results %v", seen[kinds], kinds)
		}
	}
}
