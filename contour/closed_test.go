package contour_test

import (
	"slices"
	"testing"

	"lithophane/api"
	"lithophane/contour"
	"lithophane/mesh"
	"lithophane/wide"
)

// checkClosed checks all that P8.2 says of the surface of a valid field, and returns it.
func checkClosed(t *testing.T, f api.Field) []api.Tri {
	t.Helper()
	l := contour.Contour(f)
	if kind := mesh.Check(l); kind != api.OK {
		t.Fatalf("Check of the surface of %s: %d", briefField(f), kind)
	}
	for _, tri := range l {
		for _, p := range tri {
			if min(p.X, p.Y, p.Z) < 0 || max(p.X, p.Y, p.Z) > api.MaxCoord {
				t.Fatalf("Contour of %s: the corner %v", briefField(f), p)
			}
		}
	}
	hasInside := slices.Contains(f.In, true)
	if hasInside != (len(l) > 0) {
		t.Fatalf("Contour of %s: %d triangles", briefField(f), len(l))
	}
	if sign := wide.Sign(mesh.Volume6(l)); hasInside != (sign > 0) || sign < 0 {
		t.Fatalf("Contour of %s: the volume has the sign %d", briefField(f), sign)
	}
	return l
}

// P8.2: both fields of level 1, and, of level 2, those with up to three inside vertices,
// or up to three outside ones (of those that may be inside).
func TestP8_2FewVertices(t *testing.T) {
	checkClosed(t, fieldOfVertices(1))
	checkClosed(t, fieldOfVertices(1, vertex{1, 1, 1}))
	places := vertices(1, 3)
	few := [][]vertex{{}}
	for i, a := range places {
		few = append(few, []vertex{a})
		for j, b := range places[:i] {
			few = append(few, []vertex{a, b})
			for _, c := range places[:j] {
				few = append(few, []vertex{a, b, c})
			}
		}
	}
	if len(few) != 1+27+351+2925 {
		t.Fatalf("%d sets of vertices", len(few))
	}
	for _, set := range few {
		checkClosed(t, fieldOfVertices(2, set...))
		checkClosed(t, fieldOf(2, func(v vertex) bool { return !slices.Contains(set, v) }))
	}
}

// P8.2: all ways in which the vertices of two cells with a common face can be inside.
func TestP8_2TwoCells(t *testing.T) {
	for axis := range 3 {
		var places []vertex
		for i := range 12 {
			v := vertex{1, 1, 1}.plus(axis, i/4)
			places = append(places, v.plus((axis+1)%3, i%2).plus((axis+2)%3, i/2%2))
		}
		for set := axis; set < 1<<12; set += 3 {
			f := fieldOfVertices(2)
			for i, v := range places {
				f.In[indexOf(2, v)] = set>>i&1 == 1
			}
			checkClosed(t, f)
		}
	}
}

// P8.2: fields of many sorts at levels up to 6.
func TestP8_2Fields(t *testing.T) {
	triangles := 0
	forFields(821, []int{0, 8, 500, 150, 30, 5, 1}, func(g *generator, f api.Field) {
		triangles += len(checkClosed(t, f))
	})
	if triangles < 150000 {
		t.Errorf("%d triangles", triangles)
	}
}

// P8.2: coordinates are from 0 to MaxCoord, and come as near to both as they may.
func TestP8_2Coordinates(t *testing.T) {
	for _, level := range levels() {
		n, h := cells(level), length(level)
		l := contour.Contour(fieldOfVertices(level, vertex{1, 1, 1}, vertex{n - 1, n - 1, n - 1}))
		low, high := l[0][0], l[0][0]
		for _, tri := range l {
			for _, p := range tri {
				low = at(min(low.X, p.X), min(low.Y, p.Y), min(low.Z, p.Z))
				high = at(max(high.X, p.X), max(high.Y, p.Y), max(high.Z, p.Z))
			}
		}
		if low != at(h/2, h/2, h/2) || high != at(2097152-h/2, 2097152-h/2, 2097152-h/2) {
			t.Errorf("level %d: coordinates from %v to %v", level, low, high)
		}
	}
}

// boxVolume6 returns the volume of the surface around a box of vertices, times six: it
// is half an edge larger at each side, but its edges and corners are cut off.
func boxVolume6(level int, low, high vertex) api.Wide {
	a, b, c := high[0]-low[0], high[1]-low[1], high[2]-low[2]
	cube := wide.From(length(level) * length(level) * length(level))
	return wide.Mul(cube, wide.From(6*(a+1)*(b+1)*(c+1)-3*(a+b+c)-5))
}

// P8.2: the volumes of boxes.
func TestP8_2Boxes(t *testing.T) {
	g := generator(822)
	for level, count := range []int{0, 2, 30, 30, 20, 5, 2, 1, 1} {
		for range count {
			low, high := g.vertex(level), g.vertex(level)
			for axis := range 3 {
				low[axis], high[axis] = min(low[axis], high[axis]), max(low[axis], high[axis])
			}
			if level > 6 {
				high = vertex{min(high[0], low[0]+25), min(high[1], low[1]+19), min(high[2], low[2]+30)}
			}
			l := contour.Contour(boxField(level, low, high))
			if got, want := mesh.Volume6(l), boxVolume6(level, low, high); got != want {
				t.Errorf("box from %v to %v, level %d: volume %s, want %s", low, high, level, wide.Text(got), wide.Text(want))
			}
			if kind := mesh.Check(l); kind != api.OK || mesh.Euler(l) != 2 {
				t.Errorf("box from %v to %v, level %d: Check %d, Euler %d", low, high, level, kind, mesh.Euler(l))
			}
		}
	}
}

// P8.2: bodies that touch at a vertex, along an edge, and along the diagonals of a face
// and of a cell: their numbers of parts, and Euler numbers.
func TestP8_2BodiesThatTouch(t *testing.T) {
	block := func(low vertex) func(v vertex) bool {
		return func(v vertex) bool { return isBetween(v, low, low.add(vertex{2, 2, 2})) }
	}
	for _, c := range []struct {
		place        vertex
		parts, euler int
		meaning      string
	}{
		{vertex{2, 2, 2}, 1, 2, "a common vertex"},
		{vertex{2, 2, 1}, 1, 2, "common vertices in a row"},
		{vertex{3, 2, 2}, 1, 2, "an edge between two corners"},
		{vertex{2, 1, 3}, 1, 2, "edges between some vertices of their sides"},
		{vertex{3, 3, 0}, 2, 4, "diagonals of faces between all vertices of two edges"},
		{vertex{3, 1, 3}, 2, 4, "diagonals of faces between some vertices of two edges"},
		{vertex{3, 3, 2}, 2, 4, "a diagonal of a face between two corners"},
		{vertex{3, 3, 3}, 2, 4, "a diagonal of a cell between two corners"},
		{vertex{4, 0, 0}, 2, 4, "outside vertices between them"},
	} {
		first, second := block(vertex{1, 1, 1}), block(vertex{1, 1, 1}.add(c.place))
		f := fieldOf(3, func(v vertex) bool { return first(v) || second(v) })
		l := checkClosed(t, f)
		if parts := mesh.Parts(l); len(parts) != c.parts || mesh.Euler(l) != c.euler {
			t.Errorf("bodies with %s: %d parts, Euler %d; want %d, %d", c.meaning, len(parts), mesh.Euler(l), c.parts, c.euler)
		}
		check(t, f, refContour(f))
	}
}

// P8.2: hollow bodies: single outside vertices, two that are joined, or apart.
func TestP8_2Hollows(t *testing.T) {
	for _, c := range []struct {
		outside []vertex
		parts   int
	}{
		{[]vertex{{4, 4, 4}}, 2},
		{[]vertex{{4, 4, 4}, {4, 5, 4}}, 2},
		{[]vertex{{4, 4, 4}, {4, 5, 5}}, 2},
		{[]vertex{{4, 4, 4}, {5, 5, 5}}, 3},
		{[]vertex{{4, 4, 4}, {4, 4, 6}}, 3},
		{[]vertex{{2, 2, 2}, {6, 6, 6}, {2, 6, 2}}, 4},
		{[]vertex{{1, 4, 4}}, 1},
		{[]vertex{{2, 4, 4}}, 2},
	} {
		f := fieldOf(3, func(v vertex) bool { return !slices.Contains(c.outside, v) })
		parts := mesh.Parts(checkClosed(t, f))
		if len(parts) != c.parts {
			t.Errorf("without %v: %d parts, want %d", c.outside, len(parts), c.parts)
		}
		positive := 0
		for _, part := range parts {
			add(&positive, wide.Sign(mesh.Volume6(part)) > 0)
		}
		if positive != 1 {
			t.Errorf("without %v: %d parts with a positive volume", c.outside, positive)
		}
	}
	f := fieldOf(3, func(v vertex) bool { return v != vertex{3, 4, 5} })
	want := slices.Concat(contour.Contour(fieldOf(3, func(vertex) bool { return true })), turned(octahedron(3, vertex{3, 4, 5})))
	check(t, f, want)
}

func turned(l []api.Tri) []api.Tri {
	var all []api.Tri
	for _, tri := range l {
		all = append(all, api.Tri{tri[0], tri[2], tri[1]})
	}
	return all
}
