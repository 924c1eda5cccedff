package mesh_test

import (
	"math"
	"math/big"
	"testing"

	"lithophane/api"
	"lithophane/mesh"
	"lithophane/wide"
)

// P4.7: corners, minus pairs joined in one direction or both, plus triangles.
func TestP4_7Euler(t *testing.T) {
	for _, c := range []struct {
		l    []api.Tri
		want int
	}{
		{nil, 0}, {[]api.Tri{}, 0}, {tetrahedron(), 2}, {tetrahedron()[:3], 1}, {tris(x, y, z), 1},
		{tris(o, x, y, x, o, z), 1},                                       // joined in both directions: 4 - 5 + 2
		{tris(o, x, y, o, x, z), 1},                                       // in the same direction: 4 - 5 + 2
		{tris(x, y, z, x, z, y), 2},                                       // 3 - 3 + 2
		{tris(x, y, z, x, y, z), 2}, {tris(x, y, z, y, z, x, x, z, y), 3}, // equal triangles are counted each
		{tris(o, x, y, z, at(1, 1, 1), at(2, 0, 0)), 2}, {tris(o, x, y, o, z, at(1, 1, 1)), 1},
		{append(tetrahedron(), mirrored(tetrahedron())...), 3}, {append(tetrahedron(), moved(tetrahedron(), at(3, 0, 0))...), 4},
		{torus(3, 3), 0}, {torus(4, 7), 0}, {solid(o), 2}, {solid(box(3, 3, 1, at(1, 1, 0))...), 0}, {solid(box(5, 3, 1, at(1, 1, 0), at(3, 1, 0))...), -2},
		{solid(box(3, 3, 3, at(1, 1, 1))...), 4},
	} {
		wants(t, "Euler", c.l, mesh.Euler(c.l), c.want)
	}
}

// P4.7: a pair may consist of equal corners.
func TestP4_7EulerOfEqualCorners(t *testing.T) {
	for _, c := range []struct {
		l    []api.Tri
		want int
	}{
		{tris(x, x, x), 1}, {tris(x, x, x, x, x, x), 2}, {tris(x, x, x, y, y, y), 2}, // 1 - 1 + 1
		{tris(x, x, y), 1}, {tris(x, y, x), 1}, {tris(y, x, x), 1}, // 2 - 2 + 1
		{tris(x, x, y, y, y, x), 1}, {tris(x, x, y, x, y, z), 1}, // 2 - 3 + 2, 3 - 4 + 2
	} {
		wants(t, "Euler", c.l, mesh.Euler(c.l), c.want)
	}
}

// P4.7: many lists, and long ones.
func TestP4_7EulerOfMany(t *testing.T) {
	forLists(300, func(g *generator, l []api.Tri) {
		wants(t, "Euler", l, mesh.Euler(l), refEuler(l))
		wants(t, "Euler in another order", l, mesh.Euler(g.shuffled(l)), refEuler(l))
	})
	wants(t, "Euler", nil, mesh.Euler(strip(20000)), 1)
	wants(t, "Euler", nil, mesh.Euler(ring(o, 20000)), 1)
	wants(t, "Euler", nil, mesh.Euler(doubleCone(9000)), 2)
	wants(t, "Euler", nil, mesh.Euler(torus(70, 80)), 0)
}

// P4.8: determinants of known triangles.
func TestP4_8Volume6(t *testing.T) {
	for _, c := range []struct {
		l    []api.Tri
		want int
	}{
		{nil, 0}, {[]api.Tri{}, 0}, {tris(o, o, o), 0}, {tris(x, y, z), 1}, {tris(y, z, x), 1}, {tris(z, x, y), 1}, {tris(x, z, y), -1},
		{tetrahedron(), 1}, {turned(tetrahedron()), -1}, {mirrored(tetrahedron()), 1}, {tris(x, y, z, x, y, z), 2}, {tris(x, y, z, x, z, y), 0},
		{tris(at(2, 3, 5), at(7, 11, 13), at(17, 19, 23)), 2*(11*23-13*19) + 3*(13*17-7*23) + 5*(7*19-11*17)},
		{tris(at(1, 2, 3), at(4, 5, 6), at(7, 8, 9)), 0}, {tris(at(-1, 0, 0), at(0, -1, 0), at(0, 0, -1)), -1}, {tris(at(5, 5, 5), at(5, 5, 5), z), 0},
	} {
		wants(t, "Volume6", c.l, mesh.Volume6(c.l), wide.From(c.want))
	}
}

// P4.8: sums of any size, for far points, and for the least and the greatest ints.
func TestP4_8Volume6OfFarPoints(t *testing.T) {
	lo, hi, far := math.MinInt, math.MaxInt, 1<<40
	for _, c := range []struct {
		l    []api.Tri
		want string
	}{
		{tris(at(far, 0, 0), at(0, far, 0), at(0, 0, far)), "1329227995784915872903807060280344576"},
		{tris(at(far, 0, 0), at(0, 0, far), at(0, far, 0)), "-1329227995784915872903807060280344576"},
		{tris(at(lo, 0, 0), at(0, lo, 0), at(0, 0, lo)), "-784637716923335095479473677900958302012794430558004314112"}, // -2^189
		{tris(at(hi, 0, 0), at(0, hi, 0), at(0, 0, lo)), "-784637716923335095309332494440489070290330498878974984192"}, // -(2^63 - 1)^2 2^63
		{tris(at(lo, hi, lo), at(hi, lo, lo), at(lo, lo, lo)), "3138550867693340381577612344682894744597026486837103820800"},
		{tris(at(far, 0, 0), at(0, far, 0), at(0, 0, far), at(far, 0, 0), at(0, 0, far), at(0, far, 0), x, y, z), "1"},
		{tris(at(0, lo, 0), at(0, 0, 1), at(1, 0, 0)), "-9223372036854775808"}, {tris(at(0, 0, lo), at(0, 1, 0), at(1, 0, 0)), "9223372036854775808"},
	} {
		if got := wide.Text(mesh.Volume6(c.l)); got != c.want {
			t.Errorf("Volume6 of %v: %s, want %s", c.l, got, c.want)
		}
	}
}

// P4.8: many lists with corners everywhere.
func TestP4_8Volume6OfMany(t *testing.T) {
	lo, hi := math.MinInt, math.MaxInt
	coordinates := []int{lo, lo + 1, -1 << 32, -1 << 31, -api.MaxCoord, -7, -1, 0, 0, 1, 3, api.MaxCoord, 1 << 31, 1<<31 - 1, 1 << 32, 1 << 62, hi - 1, hi}
	signs := map[int]int{}
	g := generator(9)
	for range 3000 {
		span := 1 + g.below(len(coordinates)/2)
		first := g.below(len(coordinates) - span + 1)
		point := func() api.Point {
			return at(coordinates[first+g.below(span)], coordinates[first+g.below(span)], coordinates[first+g.below(span)])
		}
		var l []api.Tri
		for range g.below(6) {
			l = append(l, api.Tri{point(), point(), point()})
		}
		want := refVolume6(l)
		signs[want.Sign()]++
		wants(t, "Volume6", l, mesh.Volume6(l), wideOf(want))
	}
	if min(signs[-1], signs[0], signs[1]) < 300 {
		t.Errorf("signs: %v", signs)
	}
}

// P4.8: long lists, whose sum fits into no int.
func TestP4_8Volume6OfLongList(t *testing.T) {
	far := at(api.MaxCoord, 0, 0)
	var l []api.Tri
	for i := range 20000 {
		l = append(l, api.Tri{far, at(i, api.MaxCoord, 0), at(0, i, api.MaxCoord)})
	}
	side := big.NewInt(api.MaxCoord)
	want := new(big.Int).Mul(new(big.Int).Mul(side, side), side)
	wants(t, "Volume6", nil, mesh.Volume6(l), wideOf(want.Mul(want, big.NewInt(int64(len(l))))))
	wants(t, "Volume6", nil, mesh.Volume6(append(l, turned(l)...)), api.Wide{})
}
