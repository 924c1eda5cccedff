package witness_test

import (
	"math"
	"math/big"
	"testing"

	"lithophane/api"
	"lithophane/wide"
	"lithophane/witness"
)

// refVolume6 is the sum of the determinants of all triangles.
func refVolume6(l []api.Tri) *big.Int {
	total := new(big.Int)
	for _, tri := range l {
		for k := range 6 {
			order := [6][3]int{{0, 1, 2}, {1, 2, 0}, {2, 0, 1}, {0, 2, 1}, {2, 1, 0}, {1, 0, 2}}[k]
			x, y, z := tri[order[0]].X, tri[order[1]].Y, tri[order[2]].Z
			product := new(big.Int).Mul(big.NewInt(int64(x)), big.NewInt(int64(y)))
			product.Mul(product, big.NewInt(int64(z)))
			if k >= 3 {
				product.Neg(product)
			}
			total.Add(total, product)
		}
	}
	return total
}

func checkDelta(t *testing.T, fine, coarse []api.Tri) api.Wide {
	t.Helper()
	got := witness.Delta(fine, coarse)
	if want := new(big.Int).Sub(refVolume6(fine), refVolume6(coarse)); wide.Text(got) != want.String() {
		t.Fatalf("Delta of %s, %s: %s; want %s", brief(fine), brief(coarse), wide.Text(got), want)
	}
	if canonical, _ := wide.Parse(wide.Text(got)); got != canonical {
		t.Fatalf("Delta of %s, %s is not canonical", brief(fine), brief(coarse))
	}
	return got
}

// P12.2: known volumes, in both orders.
func TestP12_2Delta(t *testing.T) {
	one, other := tetrahedron(3), shifted(octahedron(2), at(5, -6, 7))
	for _, c := range []struct {
		fine, coarse []api.Tri
		want         string
	}{
		{nil, nil, "0"}, {nil, []api.Tri{}, "0"}, {[]api.Tri{}, nil, "0"}, {one, nil, "27"}, {nil, one, "-27"}, {one, one, "0"}, {one, other, "-37"}, {other, one, "37"},
		{turned(one), other, "-91"}, {one, turned(other), "91"}, {append(one, other...), other, "27"}, {append(one, one...), one, "27"},
		{tris(at(1, 0, 0), at(0, 1, 0), at(0, 0, 1)), nil, "1"}, {nil, tris(at(2, 0, 0), at(0, 0, 3), at(0, 4, 0)), "24"},
		{leaf(at(1, 2, 3), at(4, 5, 7), at(8, 2, 2)), nil, "0"}, {tris(at(5, 5, 5), at(5, 5, 5), at(5, 5, 5)), nil, "0"},
	} {
		if got := wide.Text(checkDelta(t, c.fine, c.coarse)); got != c.want {
			t.Errorf("Delta of %v, %v: %s; want %s", c.fine, c.coarse, got, c.want)
		}
	}
}

// P12.2: coordinates whose products fit into no int, and any lists.
func TestP12_2DeltaOfMany(t *testing.T) {
	g := generator(21)
	for _, space := range spaces() {
		for range 60 {
			corners := g.corners(space)
			fine, coarse := g.soup(corners), g.soup(corners)
			checkDelta(t, fine, coarse)
			checkDelta(t, coarse, fine)
			checkDelta(t, fine, nil)
			checkDelta(t, nil, fine)
		}
	}
	lo, hi := math.MinInt, math.MaxInt
	most := tris(at(lo, 0, 0), at(0, lo, 0), at(0, 0, lo))
	if got := wide.Text(checkDelta(t, most, tris(at(hi, 0, 0), at(0, hi, 0), at(0, 0, hi)))); got != "-1569275433846670190703735580611212756455728021652746797055" {
		t.Errorf("Delta: %s", got)
	}
}

// P12.2: with the same border, Delta is the same wherever both surfaces are.
func TestP12_2DeltaElsewhere(t *testing.T) {
	strip, inner := strip(5)
	lower := collapsed(strip, move(inner[1], inner[2]))
	for _, c := range []claim{
		divided(at(3, 4, 1)), {tetrahedron(9), octahedron(7), nil}, {tetrahedron(9), nil, nil}, {wheel(at(1, 2, 9), ringOf(7, 40)...), wheel(at(5, -6, 7), ringOf(7, 40)...), nil},
		taken(5), crossing(), {with(strip, inner[0], at(7, 8, 9)), lower, nil}, {tube(5, 3, 30, 20), collapsed(tube(5, 3, 30, 20), move(at(30, 0, 20), at(30, 0, 0))), nil},
	} {
		want := checkDelta(t, c.fine, c.coarse)
		for _, by := range []api.Point{at(1, 0, 0), at(-7, 8, 9), at(1<<20, -1<<21, 5), at(1<<62, -1<<61, 1<<60), at(math.MinInt+99, math.MaxInt-99, 0)} {
			if got := checkDelta(t, shifted(c.fine, by), shifted(c.coarse, by)); got != want {
				t.Errorf("Delta of %s: %s; %s elsewhere", brief(c), wide.Text(want), wide.Text(got))
			}
		}
	}
	// With different borders, it is not.
	one := tris(at(1, 0, 0), at(0, 1, 0), at(0, 0, 1))
	if checkDelta(t, one, nil) == checkDelta(t, shifted(one, at(1, 1, 1)), nil) {
		t.Errorf("Delta of a triangle is the same elsewhere")
	}
}
