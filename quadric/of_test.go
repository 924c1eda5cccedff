package quadric_test

import (
	"math"
	"math/big"
	"testing"

	"lithophane/api"
	"lithophane/exact"
	"lithophane/quadric"
	"lithophane/wide"
)

// P10.1: triangles in planes across the axes, through the origin and not; the sign of the
// normal makes no difference.
func TestP10_1AcrossAxes(t *testing.T) {
	for _, c := range []int{0, 1, -1, 2, -7, 1000} {
		for _, x := range []struct {
			tri  api.Tri
			want [10]int
		}{
			{api.Tri{at(c, 0, 0), at(c, 2, 0), at(c, 0, 3)}, [10]int{0: 36, 3: -72 * c, 9: 36 * c * c}},
			{api.Tri{at(c, 5, 5), at(c, 5, 6), at(c, 6, 5)}, [10]int{0: 1, 3: -2 * c, 9: c * c}},
			{api.Tri{at(0, c, 0), at(2, c, 0), at(0, c, 3)}, [10]int{4: 36, 6: -72 * c, 9: 36 * c * c}},
			{api.Tri{at(-5, c, 7), at(-4, c, 7), at(-5, c, 9)}, [10]int{4: 4, 6: -8 * c, 9: 4 * c * c}},
			{api.Tri{at(0, 0, c), at(2, 0, c), at(0, 3, c)}, [10]int{7: 36, 8: -72 * c, 9: 36 * c * c}},
			{api.Tri{at(8, -1, c), at(8, 4, c), at(9, -1, c)}, [10]int{7: 25, 8: -50 * c, 9: 25 * c * c}},
		} {
			checkOf(t, x.tri, withInts(x.want))
		}
	}
}

// P10.1: planes whose functions have two factors that are not 0, of the same sign or not:
// each coefficient of a product of different ones has the factor 2 and a sign.
func TestP10_1TwoFactors(t *testing.T) {
	for _, x := range []struct {
		tri  api.Tri
		want [10]int
	}{
		{api.Tri{at(0, 0, 0), at(2, -3, 0), at(0, 0, 1)}, [10]int{0: 9, 1: 12, 4: 4}},     // 3 x + 2 y
		{api.Tri{at(0, 0, 0), at(2, 3, 0), at(0, 0, 1)}, [10]int{0: 9, 1: -12, 4: 4}},     // 3 x - 2 y
		{api.Tri{at(0, 0, 0), at(0, 1, 0), at(5, 0, -3)}, [10]int{0: 9, 2: 30, 7: 25}},    // 3 x + 5 z
		{api.Tri{at(0, 0, 0), at(0, 1, 0), at(5, 0, 3)}, [10]int{0: 9, 2: -30, 7: 25}},    // 3 x - 5 z
		{api.Tri{at(0, 0, 0), at(1, 0, 0), at(0, 7, -2)}, [10]int{4: 4, 5: 28, 7: 49}},    // 2 y + 7 z
		{api.Tri{at(0, 0, 0), at(1, 0, 0), at(0, 7, 2)}, [10]int{4: 4, 5: -28, 7: 49}},    // 2 y - 7 z
		{api.Tri{at(-4, 0, 0), at(-4, 3, 0), at(-4, 0, 1)}, [10]int{0: 9, 3: 72, 9: 144}}, // 3 x + 12
		{api.Tri{at(4, 0, 0), at(4, 3, 0), at(4, 0, 1)}, [10]int{0: 9, 3: -72, 9: 144}},   // 3 x - 12
		{api.Tri{at(0, -4, 0), at(3, -4, 0), at(0, -4, 1)}, [10]int{4: 9, 6: 72, 9: 144}}, // 3 y + 12
		{api.Tri{at(0, 4, 0), at(3, 4, 0), at(0, 4, 1)}, [10]int{4: 9, 6: -72, 9: 144}},   // 3 y - 12
		{api.Tri{at(0, 0, -4), at(3, 0, -4), at(0, 1, -4)}, [10]int{7: 9, 8: 72, 9: 144}}, // 3 z + 12
		{api.Tri{at(0, 0, 4), at(3, 0, 4), at(0, 1, 4)}, [10]int{7: 9, 8: -72, 9: 144}},   // 3 z - 12
	} {
		for _, tri := range orders(x.tri) {
			checkOf(t, tri, withInts(x.want))
		}
	}
}

// P10.1: a leaning plane, whose function is 28 x - 12 y + 21 z - 84 or its negative: all
// coefficients are different.
func TestP10_1Leaning(t *testing.T) {
	want := withInts([10]int{28 * 28, -2 * 28 * 12, 2 * 28 * 21, -2 * 28 * 84, 12 * 12, -2 * 12 * 21, 2 * 12 * 84, 21 * 21, -2 * 21 * 84, 84 * 84})
	for _, tri := range orders(api.Tri{at(3, 0, 0), at(0, -7, 0), at(0, 0, 4)}) {
		checkOf(t, tri, want)
	}
	// Other triangles in the same plane: with the same area, and with three times as much.
	checkOf(t, api.Tri{at(3, 0, 0), at(3, 7, 4), at(0, -7, 0)}, want)
	for k := range want {
		want[k] = wide.Mul(want[k], wide.From(9))
	}
	checkOf(t, api.Tri{at(3, 0, 0), at(3, 21, 12), at(0, -7, 0)}, want)
}

// P10.1: great coordinates m on the axes, for which A, B and C are the square of m.
func TestP10_1GreatCoordinates(t *testing.T) {
	for _, m := range []int{1, -1, api.MaxCoord, -api.MaxCoord, 1<<31 - 1, 1 << 40, math.MaxInt, math.MinInt, math.MinInt + 1} {
		power := func(exponent int64, factor int) api.Wide {
			n := new(big.Int).Exp(big64(m), big.NewInt(exponent), nil)
			return wideOf(n.Mul(n, big64(factor)))
		}
		same, mixed, first := power(4, 1), power(4, 2), power(5, -2)
		want := api.Quadric{same, mixed, mixed, first, same, mixed, first, same, first, power(6, 1)}
		for _, tri := range orders(api.Tri{at(m, 0, 0), at(0, m, 0), at(0, 0, m)}) {
			checkOf(t, tri, want)
		}
	}
}

// flatTris are triangles without area: with two or three equal corners, and with corners
// on a line.
func flatTris() []api.Tri {
	var all []api.Tri
	for _, p := range []api.Point{{}, at(1, 2, 3), at(api.MaxCoord, 0, api.MaxCoord), at(math.MinInt, math.MaxInt, -1)} {
		all = append(all, api.Tri{p, p, p})
		for _, q := range []api.Point{{X: 5}, at(-3, 4, 9), at(math.MaxInt, math.MinInt, math.MinInt)} {
			all = append(all, api.Tri{p, p, q}, api.Tri{p, q, p}, api.Tri{q, p, p})
		}
	}
	const far = 1 << 61
	for _, line := range []api.Tri{
		{{}, {X: 1}, {X: 2}}, {{Y: -5}, {Y: 7}, {Y: 1}}, {at(4, 4, 1), at(4, 4, 2), at(4, 4, -9)}, {at(1, 2, 3), at(3, 1, 4), at(7, -1, 6)},
		{at(far, far, far), at(2*far, 2*far, 2*far), at(-3*far, -3*far, -3*far)}, {at(math.MinInt, 0, 5), at(0, 0, 5), at(math.MaxInt, 0, 5)},
		{at(math.MinInt, math.MinInt, math.MaxInt), at(-1, -1, 0), at(math.MaxInt, math.MaxInt, math.MinInt)},
	} {
		all = append(all, orders(line)...)
	}
	return all
}

// P10.1: all coefficients of flat triangles are 0.
func TestP10_1Flat(t *testing.T) {
	for _, tri := range flatTris() {
		if !exact.Flat(tri) {
			t.Fatalf("%v is not flat", tri)
		}
		checkOf(t, tri, api.Quadric{})
	}
}

// P10.1: triangles that are nearly flat are not, however great their coordinates are.
func TestP10_1NearlyFlat(t *testing.T) {
	for _, tri := range []api.Tri{
		{at(math.MinInt, 0, 5), at(0, 1, 5), at(math.MaxInt, 0, 5)}, {{}, at(math.MaxInt, math.MaxInt, 0), at(math.MaxInt, math.MaxInt-1, 0)},
		{at(math.MinInt, math.MinInt, math.MinInt), {}, at(math.MaxInt, math.MaxInt, math.MaxInt-1)},
	} {
		if quadric.Of(tri) == (api.Quadric{}) {
			t.Fatalf("Of(%v): 0", tri)
		}
		checkOf(t, tri, refOf(tri))
	}
}

// P10.1: many triangles, in all spaces.
func TestP10_1Of(t *testing.T) {
	flat, leaning := 0, 0
	forSpaces(101, 1000, func(g *generator, space []int) {
		tri := g.tri(space)
		want := refOf(tri)
		checkOf(t, tri, want)
		switch {
		case want == (api.Quadric{}):
			flat++
		case want[1].Mag != "" && want[2].Mag != "" && want[5].Mag != "" && want[9].Mag != "":
			leaning++
		}
	})
	if flat < 1000 || leaning < 3000 {
		t.Errorf("%d flat triangles, %d in leaning planes", flat, leaning)
	}
}

// P10.1: the first examples of the document.
func TestP10_1Examples(t *testing.T) {
	checkOf(t, api.Tri{at(0, 0, 0), at(1, 0, 0), at(0, 1, 0)}, withInts([10]int{7: 1}))
	checkOf(t, api.Tri{at(0, 0, 2), at(2, 0, 2), at(0, 3, 2)}, withInts([10]int{7: 36, 8: -144, 9: 144}))
}
