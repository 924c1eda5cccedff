package subdivide_test

import (
	"slices"
	"testing"

	"lithophane/api"
	"lithophane/mesh"
	"lithophane/subdivide"
)

// P9.1: the number of triangles at the bound, and just beyond it, for all numbers of steps.
func TestP9_1ManyTriangles(t *testing.T) {
	for steps, sides := range []int{32768, 8192, 2048, 512, 128} {
		for _, b := range []body{bipyramid(sides), bipyramid(sides - 1)} {
			c := b.control(steps)
			points, tris, err := subdivide.Fine(c)
			if err != api.OK || len(tris) != len(c.Tris)<<(2*steps) || len(points) != len(tris)/2+2 {
				t.Errorf("%d steps, %d triangles: %v, %d triangles", steps, len(c.Tris), err, len(tris))
			}
		}
		for _, b := range []body{bipyramid(sides + 1), bipyramid(2 * sides)} {
			c := b.control(steps)
			checkFine(t, c, nil, nil, api.ErrMany)
			checkSurface(t, c, nil, api.ErrMany)
			checkAnalysis(t, c, nil, api.Control{}, api.ErrMany)
			c.Points[0].X = -1
			checkFine(t, c, nil, nil, api.ErrMany)
			c.Creases = [][2]int{{0, 1}}
			checkFine(t, c, nil, nil, api.ErrForm)
		}
	}
}

// P9.1: far more triangles than are permitted.
func TestP9_1FarMoreTriangles(t *testing.T) {
	b := bipyramid(70000)
	for _, steps := range []int{0, 1, 4} {
		checkFine(t, b.control(steps), nil, nil, api.ErrMany)
	}
	c := b.control(4)
	c.Tris = c.Tris[1:]
	checkFine(t, c, nil, nil, api.ErrOpen)
	c.Steps = 5
	checkFine(t, c, nil, nil, api.ErrArg)
}

// P9.3, P9.4: the largest meshes that are permitted, with creases and details of all
// steps: their triangles are closed, and Analyse leads back to them.
func TestP9_3LargestMeshes(t *testing.T) {
	g := generator(949)
	for steps, b := range []body{torus(128, 256), torus(64, 128), torus(32, 64), torus(16, 32), torus(8, 16)} {
		c := b.control(steps)
		for _, pair := range joined(c.Tris) {
			if g.below(3) == 0 {
				c.Creases = append(c.Creases, pair)
			}
		}
		for k := range steps {
			var list []api.Point
			for range len(c.Tris) << (2 * k) * 3 / 2 {
				list = append(list, g.point(-2097151, 2097151))
			}
			c.Details = append(c.Details, list)
		}
		points, tris, err := subdivide.Fine(c)
		if err != api.OK || len(tris) != 65536 || len(points) != 32768 || mesh.Check(refLine(tris)) != api.OK {
			t.Fatalf("%d steps: %v, %d triangles, %d points", steps, err, len(tris), len(points))
		}
		found, err := subdivide.Analyse(without(c), points)
		if err != api.OK || !same(found, c) {
			t.Errorf("%d steps: Analyse does not lead back: %v", steps, err)
		}
	}
}

// P9.2: the surfaces of the largest meshes, which are closed.
func TestP9_2LargestSurfaces(t *testing.T) {
	g := generator(922)
	for steps, m := range []int{128, 64, 32, 16, 8} {
		c := torus(m, 65536>>(2*steps)/2/m).control(steps)
		most := greatest(steps)
		for i := range c.Points {
			c.Points[i] = g.point(most/3, most-most/3)
			if steps == 4 {
				c.Points[i] = at(12+i%m, 8+i/m, 16) // there are not many places
			}
		}
		for k := range steps {
			far := max(25, 20000/power(steps-1-k))
			var list []api.Point
			for range len(c.Tris) << (2 * k) * 3 / 2 {
				list = append(list, g.point(-far, far))
			}
			c.Details = append(c.Details, list)
		}
		l, err := subdivide.Subdivide(c)
		if err != api.OK || len(l) != 65536 || mesh.Check(l) != api.OK || !slices.Equal(l, mesh.Canon(l)) {
			t.Errorf("%d steps: %v, %d triangles: %v", steps, err, len(l), mesh.Check(l))
		}
		c.Points[1] = c.Points[0]
		checkSurface(t, c, nil, api.ErrTwice)
	}
}
