package subdivide_test

import (
	"slices"
	"testing"

	"lithophane/api"
	"lithophane/mesh"
	"lithophane/subdivide"
	"lithophane/wide"
)

// P9.2: the tetrahedron's new points lie in the middle of its edges, so that its surface
// stays, cut into smaller triangles, with each step.
func TestP9_2Tetrahedron(t *testing.T) {
	c := example()
	want := []api.Tri{
		{at(0, 0, 0), at(0, 0, 128), at(0, 128, 0)}, {at(0, 0, 0), at(0, 128, 0), at(128, 0, 0)}, {at(0, 0, 0), at(128, 0, 0), at(0, 0, 128)},
		{at(0, 0, 128), at(0, 0, 256), at(0, 128, 128)}, {at(0, 0, 128), at(0, 128, 128), at(0, 128, 0)},
		{at(0, 0, 128), at(128, 0, 0), at(128, 0, 128)}, {at(0, 0, 128), at(128, 0, 128), at(0, 0, 256)},
		{at(0, 0, 256), at(128, 0, 128), at(0, 128, 128)},
		{at(0, 128, 0), at(0, 128, 128), at(0, 256, 0)}, {at(0, 128, 0), at(0, 256, 0), at(128, 128, 0)}, {at(0, 128, 0), at(128, 128, 0), at(128, 0, 0)},
		{at(0, 128, 128), at(128, 0, 128), at(128, 128, 0)}, {at(0, 128, 128), at(128, 128, 0), at(0, 256, 0)},
		{at(128, 0, 0), at(128, 128, 0), at(256, 0, 0)}, {at(128, 0, 0), at(256, 0, 0), at(128, 0, 128)},
		{at(128, 0, 128), at(256, 0, 0), at(128, 128, 0)},
	}
	checkSurface(t, c, want, api.OK)
	if got, wantVolume := mesh.Volume6(want), wide.From(256*256*256); got != wantVolume {
		t.Errorf("six times the volume: %s, want %s", wide.Text(got), wide.Text(wantVolume))
	}
	c.Creases = [][2]int{{0, 1}, {1, 2}} // a new point is at (144, -16, 0)
	checkSurface(t, c, nil, api.ErrRange)
	for i := range c.Points {
		c.Points[i].Y++
	}
	if l, err := subdivide.Subdivide(c); err != api.OK || len(l) != 16 || !slices.Contains(mesh.Corners(l), at(144, 0, 0)) {
		t.Errorf("Subdivide of %s: %s", brief(c), brief(err, l))
	}
}

// P9.2: without steps, the surface has the triangles as they are, in canonical form.
func TestP9_2NoSteps(t *testing.T) {
	c := api.Control{Points: []api.Point{at(9, 0, 0), at(2097151, 0, 0), at(0, 2097151, 0), at(0, 0, 2097151)}, Tris: tetrahedron().tris}
	want := []api.Tri{
		{c.Points[3], c.Points[0], c.Points[1]}, {c.Points[3], c.Points[1], c.Points[2]}, {c.Points[3], c.Points[2], c.Points[0]},
		{c.Points[2], c.Points[1], c.Points[0]},
	}
	checkSurface(t, c, mesh.Canon(want), api.OK)
	checkSurface(t, api.Control{}, nil, api.OK)
	checkSurface(t, api.Control{Points: c.Points}, nil, api.OK)
}

// P9.2: the octahedron's new points lie at ten sixteenths of both corners, as seen from
// its centre, so that all of them are known.
func TestP9_2Octahedron(t *testing.T) {
	c := octahedron().control(1)
	from := func(x, y, z int) api.Point { return at(160+x, 160+y, 160+z) }
	c.Points = []api.Point{at(10, 10, 18), at(10, 10, 2), at(18, 10, 10), at(10, 18, 10), at(2, 10, 10), at(10, 2, 10)}
	l, err := subdivide.Subdivide(c)
	if err != api.OK || len(l) != 32 || mesh.Check(l) != api.OK {
		t.Fatalf("Subdivide: %s", brief(err, l))
	}
	var want []api.Point
	for _, sign := range []int{-1, 1} {
		want = append(want, from(128*sign, 0, 0), from(0, 128*sign, 0), from(0, 0, 128*sign))
		for _, other := range []int{-1, 1} {
			want = append(want, from(80*sign, 80*other, 0), from(80*sign, 0, 80*other), from(0, 80*sign, 80*other))
		}
	}
	slices.SortFunc(want, func(p, q api.Point) int {
		return slices.Compare([]int{p.X, p.Y, p.Z}, []int{q.X, q.Y, q.Z})
	})
	if got := mesh.Corners(l); !slices.Equal(got, want) {
		t.Errorf("corners %v, want %v", got, want)
	}
	// Each of the eight sides is cut into three triangles at corners, and an inner one.
	if got, want := mesh.Volume6(l), wide.From(8*(3*128*80*80+2*80*80*80)); got != want {
		t.Errorf("six times the volume: %s, want %s", wide.Text(got), wide.Text(want))
	}
}

// detailed returns a tetrahedron of one step, whose new points without details lie in the
// middle of its edges, and of which the first one has a detail, so that it lies at p.
func detailed(p api.Point) api.Control {
	c := api.Control{Tris: tetrahedron().tris, Steps: 1}
	c.Points = []api.Point{at(100000, 100000, 100000), at(100020, 100000, 100000), at(100000, 100040, 100000), at(100000, 100000, 100060)}
	c.Details = [][]api.Point{{at(p.X-1600160, p.Y-1600000, p.Z-1600000)}}
	return c
}

// P9.2: points of Fine at the ends of the range, and beyond.
func TestP9_2Range(t *testing.T) {
	for _, x := range []int{-1, 0, 2097151, 2097152, -400000, 3697151} {
		inAxes(at(0, 2097151, 77), x, func(p api.Point) {
			c := detailed(p)
			if points := fineOf(t, c); points[4] != p {
				t.Fatalf("the first new point of Fine is at %v, want %v", points[4], p)
			}
			if x < 0 || x > 2097151 {
				checkSurface(t, c, nil, api.ErrRange)
				return
			}
			l, err := subdivide.Subdivide(c)
			if err != api.OK || len(l) != 16 || !slices.Contains(mesh.Corners(l), p) {
				t.Errorf("Subdivide of %s: %s", brief(c), brief(err, l))
			}
		})
	}
}

// P9.2: points of control meshes, also those that belong to no triangle, cannot be out of
// range behind the last step; details of all steps can make others so.
func TestP9_2RangeOfSteps(t *testing.T) {
	for steps := range 5 {
		most := greatest(steps)
		middle := most / 2
		c := tetrahedron().beside(body{points: 3}).control(steps)
		c.Points = []api.Point{at(middle, middle, middle), at(middle+3, middle, middle), at(middle, middle+3, middle), at(middle, middle, middle+3), at(most, most, most), {}, at(0, most, 5)}
		if l, err := subdivide.Subdivide(c); err != api.OK || len(l) != 4<<(2*steps) {
			t.Errorf("Subdivide of %s: %s", brief(c), brief(err, l))
		}
		for k := range steps {
			for _, sign := range []int{-1, 1} {
				far := cloned(c)
				far.Details = make([][]api.Point, k+1)
				far.Details[k] = []api.Point{2: at(0, sign*2097151, 0)}
				checkSurface(t, far, nil, api.ErrRange)
			}
		}
	}
}

// P9.2: equal points that both belong to triangles, and such of which one does not.
func TestP9_2Twice(t *testing.T) {
	b := tetrahedron().beside(octahedron()).beside(body{points: 2})
	for steps := range 3 {
		plain := b.control(steps)
		for i, p := range plain.Points {
			plain.Points[i] = at(500+p.X%5000, 500+p.Y%5000, 500+p.Z%5000) // not at the border
		}
		l, err := subdivide.Subdivide(plain)
		if err != api.OK || len(l) != 12<<(2*steps) {
			t.Fatalf("Subdivide of %s: %s", brief(plain), brief(err, l))
		}
		for i := range plain.Points {
			for j := range i {
				c := cloned(plain)
				c.Points[i] = c.Points[j]
				want, wantErr := refSubdivide(c)
				if isOfTriangle := i < 10; isOfTriangle != (wantErr == api.ErrTwice) {
					t.Fatalf("the reference has %v for %d and %d", wantErr, i, j)
				}
				checkSurface(t, c, want, wantErr)
			}
		}
	}
}

// P9.2: new points that are equal to others: to points that stay, to new ones, and to
// such that belong to no triangle.
func TestP9_2TwiceByDetails(t *testing.T) {
	for _, p := range []api.Point{at(1600000, 1600000, 1600000), at(1600000, 1600000, 1600960), at(1600000, 1600320, 1600000), at(1600160, 1600320, 1600000), at(1600000, 1600320, 1600480)} {
		checkSurface(t, detailed(p), nil, api.ErrTwice)
		for _, axis := range []api.Point{at(1, 0, 0), at(0, 1, 0), at(0, 0, 1)} {
			c := detailed(at(p.X+axis.X, p.Y+axis.Y, p.Z+axis.Z))
			if l, err := subdivide.Subdivide(c); err != api.OK || len(l) != 16 {
				t.Errorf("Subdivide of %s: %s", brief(c), brief(err, l))
			}
		}
	}
	c := detailed(at(320000, 480000, 640000))
	c.Points = append(c.Points, at(20000, 30000, 40000), at(20000, 30000, 40000))
	want, err := refSubdivide(c)
	if err != api.OK {
		t.Fatalf("the reference has %v", err)
	}
	checkSurface(t, c, want, api.OK)
	c.Points[2] = c.Points[1]
	checkSurface(t, c, nil, api.ErrTwice)
}

// P9.2: if points are out of range, and others equal, the range counts; the error of Fine
// counts before both.
func TestP9_2Order(t *testing.T) {
	c := detailed(at(-1, 0, 0))
	c.Points[3] = c.Points[2]
	checkSurface(t, c, nil, api.ErrRange)
	c.Points[1].X = 131072
	checkSurface(t, c, nil, api.ErrRange)
	c.Corners = []int{4}
	checkSurface(t, c, nil, api.ErrIndex)
	c = detailed(at(1, 0, 0))
	c.Points[3] = c.Points[2]
	checkSurface(t, c, nil, api.ErrTwice)
	c.Creases = [][2]int{{1, 1}}
	checkSurface(t, c, nil, api.ErrForm)
}

// P9.2: two triangles with the same corners have edges in common behind a step, so that
// the surface, as it is said, is not closed then.
func TestP9_2TwoTriangles(t *testing.T) {
	for steps := range 5 {
		c := pillow().control(steps)
		c.Points = []api.Point{at(10, 10, 10), at(20, 10, 10), at(10, 20, 10)}
		want, err := refSubdivide(c)
		if err != api.OK || len(want) != 2<<(2*steps) {
			t.Fatalf("the reference has %v, %d triangles", err, len(want))
		}
		checkSurface(t, c, want, api.OK)
	}
}

// P9.2, P9.4: the surface, in canonical form, which is closed.
func TestP9_2Reference(t *testing.T) {
	seen := map[api.Errno]int{}
	forControls(921, 1500, func(g *generator, c api.Control) {
		want, err := refSubdivide(c)
		checkSurface(t, c, want, err)
		seen[err]++
		if err == api.OK && !slices.Equal(want, mesh.Canon(want)) {
			t.Fatalf("Subdivide of %s is not canonical", brief(c))
		}
		if closed := mesh.Check(want) == api.OK; !closed && !(hasPillow(c) && c.Steps > 0) {
			t.Fatalf("Subdivide of %s is not closed", brief(c))
		}
	})
	if min(seen[api.OK], seen[api.ErrRange], seen[api.ErrTwice]) < 30 {
		t.Errorf("errors: %v", seen)
	}
}

// hasPillow reports whether two triangles have the same corners.
func hasPillow(c api.Control) bool {
	var sets [][3]int
	for _, s := range c.Tris {
		slices.Sort(s[:])
		if slices.Contains(sets, s) {
			return true
		}
		sets = append(sets, s)
	}
	return false
}
