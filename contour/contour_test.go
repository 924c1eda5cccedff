package contour_test

import (
	"math"
	"slices"
	"testing"

	"lithophane/api"
	"lithophane/contour"
	"lithophane/mesh"
)

// pieces is a surface whose triangles are gathered cell by cell.
type pieces struct {
	level int
	l     []api.Tri
}

// add adds a cycle of the cell: its crossings in halves of an edge, seen from the
// least vertex, in order, and the part of its centre, unless there are only three.
func (p *pieces) add(cell vertex, centre api.Point, cycle ...vertex) {
	low, half := cell.point(p.level), length(p.level)/2
	var corners []api.Point
	for _, c := range cycle {
		corners = append(corners, at(low.X+c[0]*half, low.Y+c[1]*half, low.Z+c[2]*half))
	}
	if len(corners) == 3 {
		p.l = append(p.l, api.Tri(corners))
		return
	}
	for k, c := range corners {
		p.l = append(p.l, api.Tri{c, corners[(k+1)%len(corners)], at(low.X+centre.X, low.Y+centre.Y, low.Z+centre.Z)})
	}
}

// P8.1: single vertices, at all places of small levels, and at the ends of all levels.
func TestP8_1SingleVertices(t *testing.T) {
	for _, level := range levels() {
		n := cells(level)
		places := vertices(1, min(n-1, 3))
		if level > 2 {
			places = []vertex{{1, 1, 1}, {n - 1, n - 1, n - 1}, {1, n - 1, n / 2}, {n / 3, 2, n - 2}}
		}
		if level > 5 {
			places = places[1:3]
		}
		for _, v := range places {
			check(t, fieldOfVertices(level, v), octahedron(level, v))
		}
	}
}

// P8.1: the surface around the only vertex of level 1, in canonical form.
func TestP8_1Example(t *testing.T) {
	const m, r = 1048576, 524288
	west, east := at(m-r, m, m), at(m+r, m, m)
	south, north := at(m, m-r, m), at(m, m+r, m)
	low, high := at(m, m, m-r), at(m, m, m+r)
	want := []api.Tri{
		{west, south, high}, {west, low, south}, {west, high, north}, {west, north, low},
		{south, low, east}, {south, east, high}, {low, north, east}, {high, east, north},
	}
	slices.SortFunc(want, func(s, t api.Tri) int { return slices.CompareFunc(s[:], t[:], refCompare) })
	if got := contour.Contour(fieldOfVertices(1, vertex{1, 1, 1})); !slices.Equal(got, want) {
		t.Errorf("Contour: %v, want %v", got, want)
	}
	if got := contour.Contour(fieldOfVertices(1)); len(got) != 0 {
		t.Errorf("Contour of a field without inside vertices: %v", got)
	}
}

// P8.1: two neighbours of level 2 have eight cycles of three crossings, and four of
// four crossings.
func TestP8_1Neighbours(t *testing.T) {
	p := pieces{level: 2}
	const h = 524288
	p.add(vertex{0, 0, 0}, at(0, 0, 0), vertex{1, 2, 2}, vertex{2, 2, 1}, vertex{2, 1, 2})
	p.add(vertex{0, 1, 0}, at(0, 0, 0), vertex{1, 0, 2}, vertex{2, 1, 2}, vertex{2, 0, 1})
	p.add(vertex{0, 0, 1}, at(0, 0, 0), vertex{1, 2, 0}, vertex{2, 1, 0}, vertex{2, 2, 1})
	p.add(vertex{0, 1, 1}, at(0, 0, 0), vertex{1, 0, 0}, vertex{2, 0, 1}, vertex{2, 1, 0})
	p.add(vertex{1, 0, 0}, at(h/2, h/4*3, h/4*3), vertex{0, 1, 2}, vertex{0, 2, 1}, vertex{2, 2, 1}, vertex{2, 1, 2})
	p.add(vertex{1, 1, 0}, at(h/2, h/4, h/4*3), vertex{0, 0, 1}, vertex{0, 1, 2}, vertex{2, 1, 2}, vertex{2, 0, 1})
	p.add(vertex{1, 0, 1}, at(h/2, h/4*3, h/4), vertex{0, 2, 1}, vertex{0, 1, 0}, vertex{2, 1, 0}, vertex{2, 2, 1})
	p.add(vertex{1, 1, 1}, at(h/2, h/4, h/4), vertex{0, 1, 0}, vertex{0, 0, 1}, vertex{2, 0, 1}, vertex{2, 1, 0})
	p.add(vertex{2, 0, 0}, at(0, 0, 0), vertex{1, 2, 2}, vertex{0, 1, 2}, vertex{0, 2, 1})
	p.add(vertex{2, 1, 0}, at(0, 0, 0), vertex{1, 0, 2}, vertex{0, 0, 1}, vertex{0, 1, 2})
	p.add(vertex{2, 0, 1}, at(0, 0, 0), vertex{1, 2, 0}, vertex{0, 2, 1}, vertex{0, 1, 0})
	p.add(vertex{2, 1, 1}, at(0, 0, 0), vertex{1, 0, 0}, vertex{0, 1, 0}, vertex{0, 0, 1})
	check(t, fieldOfVertices(2, vertex{1, 1, 1}, vertex{2, 1, 1}), p.l)
	if len(p.l) != 24 {
		t.Errorf("%d triangles", len(p.l))
	}
}

// P8.1: centres whose coordinates are rounded down, and others, for cycles of four to
// seven crossings in the cell 1, 1, 1 of level 3; the sums of the crossings, in
// halves of an edge, are as the comments say.
func TestP8_1Centres(t *testing.T) {
	const half = 131072
	for _, c := range []struct {
		kind   int
		centre api.Point
		cycle  []vertex
	}{
		// (4, 2, 2) of four
		{0b00000011, at(half, half/2, half/2), []vertex{{0, 1, 0}, {0, 0, 1}, {2, 0, 1}, {2, 1, 0}}},
		// (5, 5, 3) of five
		{0b00000111, at(half, half, 78643), []vertex{{0, 0, 1}, {2, 0, 1}, {2, 1, 0}, {1, 2, 0}, {0, 2, 1}}},
		// (5, 5, 7) of five
		{0b01110000, at(half, half, 183500), []vertex{{0, 0, 1}, {0, 2, 1}, {1, 2, 2}, {2, 1, 2}, {2, 0, 1}}},
		// (6, 6, 2) of six
		{0b11110110, at(half, half, 43690), []vertex{{1, 0, 0}, {0, 0, 1}, {0, 1, 0}, {1, 2, 0}, {2, 2, 1}, {2, 1, 0}}},
		// (6, 6, 6) of six
		{0b00010111, at(half, half, half), []vertex{{2, 0, 1}, {2, 1, 0}, {1, 2, 0}, {0, 2, 1}, {0, 1, 2}, {1, 0, 2}}},
	} {
		f := fieldOfVertices(3, kindVertices(c.kind, vertex{1, 1, 1})...)
		p := pieces{level: 3}
		p.add(vertex{1, 1, 1}, c.centre, c.cycle...)
		got := trianglesIn(contour.Contour(f), 3, vertex{1, 1, 1})
		if want := refCanon(p.l); !slices.Equal(got, want) {
			t.Errorf("cell %08b: %v, want %v", c.kind, got, want)
		}
	}
}

// P8.1: the centres of all cells at all levels: each is the sum of the crossings of the
// triangles around it, divided by their number, and rounded down.
func TestP8_1CentresAtLevels(t *testing.T) {
	rounded := 0
	for _, level := range levels()[1:] {
		for kind := 1; kind < 256; kind += 1 + level*level/2 {
			n := cells(level)
			f := fieldOfVertices(level, kindVertices(kind, vertex{n - 2, 1, n / 2})...)
			corners := map[api.Point][]api.Point{}
			for _, tri := range contour.Contour(f) {
				if i := slices.IndexFunc(tri[:], func(p api.Point) bool { return isCentre(p, level) }); i >= 0 {
					corners[tri[i]] = append(corners[tri[i]], tri[(i+1)%3])
				}
			}
			for centre, cycle := range corners {
				add(&rounded, checkCentre(t, centre, cycle))
			}
		}
	}
	if rounded < 100 {
		t.Errorf("%d centres are rounded", rounded)
	}
}

// checkCentre checks the centre of a cycle, and reports whether it is rounded.
func checkCentre(t *testing.T, centre api.Point, cycle []api.Point) bool {
	t.Helper()
	isRounded := false
	for _, coordinate := range []func(p api.Point) int{func(p api.Point) int { return p.X }, func(p api.Point) int { return p.Y }, func(p api.Point) int { return p.Z }} {
		rest := -len(cycle) * coordinate(centre)
		for _, p := range cycle {
			rest += coordinate(p)
		}
		if rest < 0 || rest >= len(cycle) {
			t.Errorf("the centre of %v is %v", cycle, centre)
		}
		isRounded = isRounded || rest > 0
	}
	return isRounded
}

// P8.1: cycles of three crossings have no centre: all corners of cells with no others
// are crossings.
func TestP8_1NoCentre(t *testing.T) {
	g := generator(812)
	for _, level := range []int{2, 3, 4} {
		parity := g.below(2)
		f := fieldOf(level, func(v vertex) bool { return (v[0]+v[1]+v[2])%2 == parity && g.below(5) > 0 })
		var want []api.Tri
		for _, v := range insideOf(f) {
			want = append(want, octahedron(level, v)...)
		}
		check(t, f, want)
	}
}

// P8.1: all results are in canonical form, as mesh.Canon has it.
func TestP8_1Canonical(t *testing.T) {
	forFields(813, []int{0, 4, 60, 40, 12, 3}, func(g *generator, f api.Field) {
		l := contour.Contour(f)
		if !slices.Equal(l, mesh.Canon(l)) || !slices.Equal(l, refCanon(l)) {
			t.Fatalf("Contour of %s is not canonical", briefField(f))
		}
	})
}

// P8.1: fields of many sorts, compared with the definitions.
func TestP8_1Fields(t *testing.T) {
	triangles := 0
	forFields(814, []int{0, 8, 300, 100, 12, 1}, func(g *generator, f api.Field) {
		l := refContour(f)
		triangles += len(l)
		check(t, f, l)
	})
	if triangles < 100000 {
		t.Errorf("%d triangles", triangles)
	}
}

// P8.1: all vertices that may be inside are. The sides of the box are made of cycles of
// four crossings, its edges, too, and its corners of cycles of three.
func TestP8_1AllInside(t *testing.T) {
	for _, level := range levels()[:7] {
		f := fieldOf(level, func(vertex) bool { return true })
		m := cells(level) - 2
		l := contour.Contour(f)
		if want := 6*4*m*m + 12*4*m + 8; len(l) != want {
			t.Errorf("level %d: %d triangles, want %d", level, len(l), want)
		}
		if level < 6 {
			check(t, f, refContour(f))
			checkClosed(t, f)
		}
	}
}

// nearlyValid returns fields that are not valid because of one vertex, at each side,
// each edge and each corner of the grid.
func nearlyValid(level int) []api.Field {
	n := cells(level)
	var all []api.Field
	for _, x := range []int{0, 1, n - 1, n} {
		for _, y := range []int{0, n / 2, n} {
			for _, z := range []int{0, 1, n - 1, n} {
				for _, v := range []vertex{{x, y, z}, {y, z, x}} {
					if v.isAtBorder(n) {
						all = append(all, fieldOfVertices(level, v), fieldOfVertices(level, v, vertex{1, 1, 1}))
					}
				}
			}
		}
	}
	return all
}

// P8.1, P8.2: results are empty for fields with an inside vertex at the border.
func TestP8_1InsideAtBorder(t *testing.T) {
	for _, level := range []int{1, 2, 3, 4} {
		for _, f := range nearlyValid(level) {
			check(t, f, nil)
		}
	}
	for _, v := range vertices(0, 4) {
		f := fieldOfVertices(2, v, vertex{1, 2, 3})
		if got := contour.Contour(f); (len(got) == 0) != v.isAtBorder(4) {
			t.Errorf("Contour of %s: %d triangles", briefField(f), len(got))
		}
	}
	for _, level := range []int{5, 8} {
		n := cells(level)
		for _, v := range []vertex{{0, 0, 0}, {n, n, n}, {0, 3, 5}, {n, 3, 5}, {3, 0, 5}, {5, n, 3}, {3, 5, 0}, {5, 3, n}} {
			check(t, fieldOfVertices(level, v, vertex{2, 2, 2}), nil)
		}
	}
}

// P8.1, P8.2: results are empty for other levels, whatever the vertices are.
func TestP8_1OtherLevels(t *testing.T) {
	for _, level := range []int{math.MinInt, math.MinInt + 1, -1 << 32, -64, -9, -8, -1, 0, 9, 10, 21, 22, 63, 64, 65, 257, 1<<32 + 1, math.MaxInt - 1, math.MaxInt} {
		for _, in := range [][]bool{nil, {}, {false}, {true}, make([]bool, 8), make([]bool, 27), fieldOfVertices(1, vertex{1, 1, 1}).In, fieldOfVertices(2, vertex{1, 1, 1}).In} {
			check(t, api.Field{Level: level, In: in}, nil)
		}
	}
	single := make([]bool, 513*513*513)
	single[1+513+513*513] = true
	check(t, api.Field{Level: 9, In: single}, nil)
	check(t, api.Field{}, nil)
	check(t, api.Field{Level: 0, In: []bool{7: true}}, nil)
}

// P8.1, P8.2: results are empty for too few and for too many vertices.
func TestP8_1OtherNumbers(t *testing.T) {
	for _, level := range levels() {
		f := fieldOfVertices(level, vertex{1, 1, 1})
		row := cells(level) + 1
		for _, in := range [][]bool{
			nil, {}, {false}, {true}, f.In[:row], f.In[:row*row], f.In[:len(f.In)-1], append(slices.Clone(f.In), false),
			append(slices.Clone(f.In), true), append(slices.Clone(f.In), f.In[:row*row]...), f.In[:len(f.In)-row], f.In[:cells(level)*cells(level)*cells(level)],
		} {
			check(t, api.Field{Level: level, In: in}, nil)
		}
		for other := range 11 {
			if other != level {
				check(t, api.Field{Level: other, In: f.In}, nil)
			}
		}
		if level < 6 {
			check(t, api.Field{Level: level, In: f.In}, octahedron(level, vertex{1, 1, 1}))
		}
	}
}
