package contour_test

import (
	"slices"
	"testing"

	"lithophane/api"
	"lithophane/contour"
	"lithophane/mesh"
	"lithophane/wide"
)

// checkLarge checks that the surface of a field is in order, and that it has the right
// triangles in the cells of some layers.
func checkLarge(t *testing.T, f api.Field, l []api.Tri, layers ...int) {
	t.Helper()
	if !slices.IsSortedFunc(l, func(s, t api.Tri) int { return slices.CompareFunc(s[:], t[:], refCompare) }) {
		t.Error("the triangles are not in order")
	}
	for _, x := range layers {
		var got, want []api.Tri
		for _, tri := range l {
			if cellOf(tri, f.Level)[0] == x {
				got = append(got, tri)
			}
		}
		for i := range cells(f.Level) * cells(f.Level) {
			c := newRefCell(f, vertex{x, i % cells(f.Level), i / cells(f.Level)})
			for _, cycle := range c.cycles() {
				want = append(want, refTriangles(cycle)...)
			}
		}
		if !slices.Equal(got, refCanon(want)) {
			t.Errorf("layer %d: %d triangles, want %d", x, len(got), len(want))
		}
	}
}

// P8.1, P8.2: a ball of level 8 with a hollow.
func TestP8_2LargeBall(t *testing.T) {
	f := fieldOf(8, func(v vertex) bool {
		x, y, z := v[0]-128, v[1]-120, v[2]-130
		d := x*x + y*y + z*z
		return 40*40 < d && d < 119*119
	})
	l := checkClosed(t, f)
	checkLarge(t, f, l, 9, 100, 128)
	if len(l) < 900000 {
		t.Errorf("%d triangles", len(l))
	}
	// A crossing lies between an inside and an outside vertex, half an edge away.
	h := length(8)
	for _, p := range mesh.Corners(l) {
		x, y, z := p.X-128*h, p.Y-120*h, p.Z-130*h
		if d := x*x + y*y + z*z; d > 120*120*h*h || d < 39*39*h*h || 42*42*h*h < d && d < 117*117*h*h {
			t.Fatalf("a corner at %v", p)
		}
	}
}

// P8.1, P8.2: all vertices of level 8 that may be inside are.
func TestP8_2LargeBox(t *testing.T) {
	f := fieldOf(8, func(vertex) bool { return true })
	l := contour.Contour(f)
	checkLarge(t, f, l, 0, 1, 255)
	if want := 6*4*254*254 + 12*4*254 + 8; len(l) != want {
		t.Errorf("%d triangles, want %d", len(l), want)
	}
	if got, want := mesh.Volume6(l), boxVolume6(8, vertex{1, 1, 1}, vertex{255, 255, 255}); got != want {
		t.Errorf("the volume is %s, want %s", wide.Text(got), wide.Text(want))
	}
}

// P8.1: a hundred thousand single vertices of level 8.
func TestP8_1LargeApart(t *testing.T) {
	g := generator(826)
	f := fieldOf(8, func(v vertex) bool { return v[0]%2 == 1 && v[1]%2 == 1 && v[2]%2 == 1 && g.below(20) == 0 })
	var want []api.Tri
	for _, v := range insideOf(f) {
		want = append(want, octahedron(8, v)...)
	}
	if len(want) < 8*90000 {
		t.Fatalf("%d triangles", len(want))
	}
	check(t, f, want)
}

// P8.1, P8.2: vertices of level 8 without any order in a part of the grid.
func TestP8_2LargeDisorder(t *testing.T) {
	g := generator(827)
	f := fieldOf(8, func(v vertex) bool { return isBetween(v, vertex{200, 1, 90}, vertex{255, 50, 120}) && g.below(2) == 0 })
	l := checkClosed(t, f)
	checkLarge(t, f, l, 199, 220, 254, 255)
	if len(l) < 250000 {
		t.Errorf("%d triangles", len(l))
	}
}
