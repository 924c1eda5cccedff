package exact_test

import (
	"math"
	"math/big"
	"testing"

	"lithophane/api"
	"lithophane/exact"
	"lithophane/wide"
)

// triangle is that of the document's examples, with the normal (0, 0, 6).
func triangle() api.Tri { return api.Tri{at(0, 0, 0), at(2, 0, 0), at(0, 3, 0)} }

// P2.1: X decides before Y, and Y before Z.
func TestP2_1Less(t *testing.T) {
	for _, x := range []struct {
		a, b api.Point
		want bool
	}{
		{at(0, 0, 0), at(0, 0, 0), false}, {at(0, 9, 9), at(1, 0, 0), true}, {at(1, 0, 0), at(0, 9, 9), false},
		{at(4, 1, 9), at(4, 2, 0), true}, {at(4, 2, 0), at(4, 1, 9), false}, {at(4, 5, 6), at(4, 5, 7), true}, {at(4, 5, 7), at(4, 5, 6), false},
		{at(math.MinInt, 0, 0), at(math.MaxInt, 0, 0), true}, {at(math.MaxInt, 0, 0), at(math.MinInt, 0, 0), false},
		{at(0, math.MinInt, 0), at(0, math.MaxInt, 0), true}, {at(0, 0, math.MaxInt), at(0, 0, math.MinInt), false},
	} {
		if got := exact.Less(x.a, x.b); got != x.want {
			t.Errorf("Less(%v, %v): %v", x.a, x.b, got)
		}
	}
}

// P2.1: of two points, at most one comes before the other; exactly one, if they differ.
func TestP2_1LessIsAnOrder(t *testing.T) {
	forSpaces(500, func(g *generator, coordinates []int) {
		a, b, c := g.point(coordinates), g.point(coordinates), g.point(coordinates)
		want := a.X < b.X || a.X == b.X && (a.Y < b.Y || a.Y == b.Y && a.Z < b.Z)
		if exact.Less(a, b) != want {
			t.Errorf("Less(%v, %v): %v", a, b, !want)
		}
		if exact.Less(a, a) || (a != b) != (exact.Less(a, b) != exact.Less(b, a)) {
			t.Errorf("Less of %v and %v in both orders", a, b)
		}
		if exact.Less(a, b) && exact.Less(b, c) && !exact.Less(a, c) {
			t.Errorf("Less of %v, %v, %v", a, b, c)
		}
	})
}

// P2.2: Normal and Flat of triangles everywhere.
func TestP2_2NormalAndFlat(t *testing.T) {
	flat := 0
	forSpaces(500, func(g *generator, coordinates []int) {
		tri := g.tri(coordinates)
		want := bigNormal(tri)
		if n := exact.Normal(tri); n != [3]api.Wide{wideOf(want[0]), wideOf(want[1]), wideOf(want[2])} {
			t.Errorf("Normal(%v): %v, want %v", tri, n, want)
		}
		if exact.Flat(tri) != bigFlat(tri) {
			t.Errorf("Flat(%v): %v", tri, !bigFlat(tri))
		}
		if bigFlat(tri) {
			flat++
		}
	})
	if flat < 500 {
		t.Errorf("only %d flat triangles", flat)
	}
}

// P2.2: the direction of a normal, and triangles that are flat, at all places.
func TestP2_2Examples(t *testing.T) {
	if n := exact.Normal(triangle()); n != [3]api.Wide{{}, {}, wide.From(6)} {
		t.Errorf("Normal: %v", n)
	}
	for _, place := range placings() {
		for _, tri := range []api.Tri{{}, {at(1, 1, 1), at(1, 1, 1), at(2, 3, 4)}, {at(1, 1, 1), at(2, 3, 4), at(1, 1, 1)}, {at(2, 3, 4), at(1, 1, 1), at(1, 1, 1)},
			{at(0, 0, 0), at(1, 2, 3), at(2, 4, 6)}, {at(2, 4, 6), at(0, 0, 0), at(1, 2, 3)}, {at(0, 0, 0), at(0, 0, 1), at(0, 0, 2)}} {
			if tri = place.tri(tri); !exact.Flat(tri) {
				t.Errorf("Flat(%v): false", tri)
			}
		}
		for _, tri := range []api.Tri{triangle(), {at(0, 0, 0), at(1, 2, 3), at(2, 4, 7)}, {at(3, 0, 0), at(0, 3, 0), at(0, 0, 3)}} {
			if tri = place.tri(tri); exact.Flat(tri) {
				t.Errorf("Flat(%v): true", tri)
			}
		}
	}
	greatest := new(big.Int).Mul(big.NewInt(math.MinInt), big.NewInt(2))
	greatest.Mul(greatest.Add(greatest, big.NewInt(1)), greatest)
	lo, hi := math.MinInt, math.MaxInt
	if n := exact.Normal(api.Tri{at(lo, lo, lo), at(hi, lo, lo), at(lo, hi, lo)}); n != [3]api.Wide{{}, {}, wideOf(greatest)} {
		t.Errorf("Normal of the greatest triangle: %v", n)
	}
}

// P2.3: Orient and Side everywhere.
func TestP2_3OrientAndSide(t *testing.T) {
	var seen [3]int
	forSpaces(500, func(g *generator, coordinates []int) {
		tri, p := g.tri(coordinates), g.flatter(g.or(coordinates))
		want := bigOrient(tri[0], tri[1], tri[2], p)
		seen[want+1]++
		if got := exact.Orient(tri[0], tri[1], tri[2], p); got != want {
			t.Errorf("Orient(%v, %v): %d", tri, p, got)
		}
		for _, component := range bigNormal(tri) {
			if want == 0 {
				want = component.Sign()
			}
		}
		if got := exact.Side(tri, p); got != want {
			t.Errorf("Side(%v, %v): %d", tri, p, got)
		}
	})
	if min(seen[0], seen[1], seen[2]) < 1000 {
		t.Errorf("signs: %d", seen)
	}
}

// P2.3: signs whose products fit into no int, and neighbours of planes.
func TestP2_3Orient(t *testing.T) {
	if got := exact.Orient(at(0, 0, 0), at(1, 0, 0), at(0, 1, 0), at(0, 0, 1)); got != 1 {
		t.Errorf("Orient of the axes: %d", got)
	}
	for bit := range 63 {
		long := 1 << bit
		for _, step := range []int{-1, 0, 1} {
			if got := exact.Orient(at(0, 0, 0), at(long, 0, 0), at(0, long, 0), at(long, long, step)); got != step {
				t.Errorf("Orient with the height %d over %d: %d", step, long, got)
			}
			if got := exact.Orient(at(0, 0, 0), at(long, long-1, 0), at(long-1, long-2, step), at(0, 0, 1)); got != -1 && bit > 0 {
				t.Errorf("Orient of nearly parallel vectors of %d: %d", long, got)
			}
		}
	}
	lo, hi := math.MinInt, math.MaxInt
	for _, x := range []struct {
		d    api.Point
		want int
	}{{at(hi, hi, hi), 1}, {at(hi, hi, lo), 0}, {at(hi, hi, lo+1), 1}, {at(lo, lo, lo), 0}, {at(lo, lo, hi), 1}} {
		if got := exact.Orient(at(lo, lo, lo), at(hi, lo, lo), at(lo, hi, lo), x.d); got != x.want {
			t.Errorf("Orient with %v: %d", x.d, got)
		}
	}
	if got := exact.Orient(at(lo, lo, lo), at(hi, hi, lo), at(hi, lo, hi), at(lo, hi, hi)); got != -1 {
		t.Errorf("Orient of the corners of all of space: %d", got)
	}
}

// P2.3: Side of points in the plane, and of flat triangles.
func TestP2_3Side(t *testing.T) {
	for _, x := range []struct {
		t    api.Tri
		p    api.Point
		want int
	}{
		{triangle(), at(1, 1, 0), 1}, {api.Tri{at(0, 0, 0), at(0, 3, 0), at(2, 0, 0)}, at(1, 1, 0), -1},
		{triangle(), at(1, 1, 2), 1}, {triangle(), at(1, 1, -2), -1}, {triangle(), at(0, 0, 0), 1}, {triangle(), at(-7, 9, 0), 1},
		{api.Tri{at(0, 0, 0), at(1, 0, 0), at(0, 1, 1)}, at(1, 0, 0), -1}, // normal (0, -1, 1)
		{api.Tri{at(0, 0, 0), at(0, 1, 1), at(1, 0, 0)}, at(1, 0, 0), 1},
		{api.Tri{at(3, 0, 0), at(0, 3, 0), at(0, 0, 3)}, at(1, 1, 1), 1}, {api.Tri{at(3, 0, 0), at(0, 0, 3), at(0, 3, 0)}, at(1, 1, 1), -1},
		{api.Tri{at(0, 0, 0), at(0, 1, 0), at(1, 0, 1)}, at(0, 9, 0), 1}, // normal (1, 0, -1)
		{api.Tri{at(0, 0, 0), at(1, 1, 1), at(2, 2, 2)}, at(5, 0, 9), 0}, {api.Tri{at(4, 4, 4), at(4, 4, 4), at(4, 4, 4)}, at(5, 0, 9), 0},
	} {
		if got := exact.Side(x.t, x.p); got != x.want {
			t.Errorf("Side(%v, %v): %d", x.t, x.p, got)
		}
		far := placing{scale: 1 << 56, move: -1 << 60}
		if got := exact.Side(far.tri(x.t), far.point(x.p)); got != x.want {
			t.Errorf("Side(%v, %v), far away: %d", x.t, x.p, got)
		}
	}
}

// P2.4: Facing and Dist2 everywhere.
func TestP2_4FacingAndDist2(t *testing.T) {
	var seen [3]int
	forSpaces(500, func(g *generator, coordinates []int) {
		u, v := g.tri(coordinates), g.tri(g.or(coordinates))
		want := bigNormal(u).dot(bigNormal(v)).Sign()
		seen[want+1]++
		if got := exact.Facing(u, v); got != want {
			t.Errorf("Facing(%v, %v): %d", u, v, got)
		}
		d := bigBetween(u[0], v[0])
		if got := exact.Dist2(u[0], v[0]); got != wideOf(d.dot(d)) {
			t.Errorf("Dist2(%v, %v): %v", u[0], v[0], got)
		}
	})
	if min(seen[0], seen[1], seen[2]) < 1000 {
		t.Errorf("signs: %d", seen)
	}
}

// P2.4: Facing of the same, a turned, a perpendicular and a flat triangle, at all places.
func TestP2_4Facing(t *testing.T) {
	for _, x := range []struct {
		s, t api.Tri
		want int
	}{
		{triangle(), triangle(), 1}, {triangle(), api.Tri{at(0, 0, 0), at(0, 3, 0), at(2, 0, 0)}, -1},
		{triangle(), api.Tri{at(0, 0, 0), at(1, 0, 0), at(0, 0, 1)}, 0}, {triangle(), api.Tri{at(0, 0, 0), at(1, 0, 0), at(2, 0, 0)}, 0},
		{api.Tri{at(1, 1, 1), at(1, 1, 1), at(1, 1, 1)}, triangle(), 0}, {triangle(), api.Tri{at(0, 0, 0), at(1, 0, 9), at(0, 1, 9)}, 1},
		{triangle(), api.Tri{at(5, 5, 5), at(5, 6, 0), at(6, 5, 0)}, -1},
	} {
		for _, place := range placings() {
			if got := exact.Facing(place.tri(x.s), place.tri(x.t)); got != x.want {
				t.Errorf("Facing(%v, %v): %d", place.tri(x.s), place.tri(x.t), got)
			}
		}
	}
}

// P2.4: distances whose squares fit into no int.
func TestP2_4Dist2(t *testing.T) {
	span := new(big.Int).SetUint64(math.MaxUint64)
	square := new(big.Int).Mul(span, span)
	lo, hi := math.MinInt, math.MaxInt
	for _, x := range []struct {
		a, b api.Point
		want *big.Int
	}{
		{at(0, 0, 0), at(0, 0, 0), big.NewInt(0)}, {at(1, 2, 3), at(4, 6, 3), big.NewInt(25)}, {at(4, 6, 3), at(1, 2, 3), big.NewInt(25)},
		{at(-1, -2, -3), at(1, 1, 3), big.NewInt(49)}, {at(hi, hi, hi), at(hi, hi, hi), big.NewInt(0)}, {at(hi, 0, 0), at(hi-3, 0, 4), big.NewInt(25)},
		{at(lo, 7, 7), at(hi, 7, 7), square}, {at(hi, lo, hi), at(lo, hi, lo), new(big.Int).Mul(square, big.NewInt(3))},
	} {
		if got := exact.Dist2(x.a, x.b); got != wideOf(x.want) {
			t.Errorf("Dist2(%v, %v): %v, want %v", x.a, x.b, got, x.want)
		}
	}
}

// P2.7: Orient changes its sign if two of its arguments are exchanged.
func TestP2_7OrientOfExchanged(t *testing.T) {
	forSpaces(200, func(g *generator, coordinates []int) {
		p := [4]api.Point{g.flatter(coordinates), g.flatter(coordinates), g.flatter(coordinates), g.flatter(coordinates)}
		sign := exact.Orient(p[0], p[1], p[2], p[3])
		for i := range p {
			for j := range i {
				q := p
				q[i], q[j] = q[j], q[i]
				if got := exact.Orient(q[0], q[1], q[2], q[3]); got != -sign {
					t.Errorf("Orient(%v): %d, of %v: %d", p, sign, q, got)
				}
			}
		}
	})
}

// answers are those of all predicates.
type answers struct {
	less, flat, touch, meet bool
	orient, side, facing    int
	normal                  [3]api.Wide
	distance                api.Wide
}

func answersFor(s, t api.Tri) answers {
	return answers{
		exact.Less(s[0], t[0]), exact.Flat(s), exact.Touch(s[0], s[1], t), exact.Meet(s, t),
		exact.Orient(s[0], s[1], s[2], t[0]), exact.Side(s, t[0]), exact.Facing(s, t), exact.Normal(s), exact.Dist2(s[0], t[0]),
	}
}

// P2.7: moving all points by one vector changes nothing.
func TestP2_7Moved(t *testing.T) {
	g := generator(3)
	for _, coordinates := range [][]int{steps(0, 1, 3), steps(0, 1<<28, 4), steps(0, 1<<60, 4)} {
		least, greatest := math.MinInt, math.MaxInt-coordinates[len(coordinates)-1]
		moves := []int{least, least + 1, -1 << 61, -1, 0, 1, 1 << 40, greatest - 1, greatest}
		for range 300 {
			s, u := g.tri(coordinates), g.tri(coordinates)
			by := g.point(moves)
			moved := func(t api.Tri) api.Tri {
				for i := range t {
					t[i] = at(t[i].X+by.X, t[i].Y+by.Y, t[i].Z+by.Z)
				}
				return t
			}
			if answersFor(s, u) != answersFor(moved(s), moved(u)) {
				t.Errorf("predicates of %v, %v, moved by %v: %v, want %v", s, u, by, answersFor(moved(s), moved(u)), answersFor(s, u))
			}
		}
	}
}

// P1, R4: all functions end for the least and greatest coordinates, and say the same again.
func TestP1AllFunctionsEnd(t *testing.T) {
	g := generator(9)
	for range 300 {
		s, u := g.tri([]int{math.MinInt, math.MaxInt, 0}), g.tri([]int{math.MinInt, math.MaxInt, 0})
		if answersFor(s, u) != answersFor(s, u) {
			t.Errorf("predicates of %v, %v", s, u)
		}
	}
}
