package witness_test

import (
	"math"
	"testing"

	"lithophane/api"
	"lithophane/witness"
)

// P12.1: a distance that is an integer stays, others are rounded up.
func TestP12_1Distance(t *testing.T) {
	for _, c := range []struct {
		further api.Point
		number  int
	}{
		{at(1, 0, 0), 1}, {at(0, -1, 0), 1}, {at(1, 1, 0), 2}, {at(1, 1, 1), 2}, {at(0, 2, 0), 2}, {at(2, 1, 0), 3}, {at(2, 2, 0), 3}, {at(2, 2, 1), 3},
		{at(-2, -2, -2), 4}, {at(3, 4, 0), 5}, {at(0, -3, 4), 5}, {at(3, 4, 1), 6}, {at(5, 1, 0), 6}, {at(-6, 0, 0), 6}, {at(-7, 4, 4), 9}, {at(-7, 4, 5), 10},
		{at(0, 0, 1000000), 1000000}, {at(1, 0, 1000000), 1000001}, {at(1<<31, 1, 0), 1<<31 + 1}, {at(1<<40, 0, 0), 1 << 40}, {at(1<<62, 1<<62, 0), 6521908912666391107},
		{at(3<<60, 1<<62, 0), 5 << 60}, {at(3<<60, 1<<62, 1), 5<<60 + 1}, {at(api.MaxCoord, api.MaxCoord, api.MaxCoord), 3632373}, {at(-7<<60, 4<<60, -4<<60+1), math.MinInt},
	} {
		d := divided(c.further)
		number, kind := witness.Check(d.fine, d.coarse, d.moves)
		wantNumber, wantKind := refCheck(d)
		if c.number == math.MinInt {
			c.number = 0
			if wantKind != api.ErrRange {
				t.Fatalf("the distance of %v fits", c.further)
			}
		}
		if number != c.number || number != wantNumber || kind != wantKind {
			t.Errorf("distance of %v: %d, %v; want %d, %v", c.further, number, kind, wantNumber, wantKind)
		}
	}
}

// P12.1: the greatest int fits, one more does not.
func TestP12_1Range(t *testing.T) {
	most := math.MaxInt
	part := most / 73 // 48, 55 and 73 are the sides of a triangle with a right angle
	for _, c := range []struct {
		from, to api.Point
		number   int
		kind     api.Errno
	}{
		{at(most, 0, 0), at(0, 0, 0), most, api.OK}, {at(0, most, 0), at(0, 0, 0), most, api.OK}, {at(0, 0, most), at(0, 0, 0), most, api.OK},
		{at(-most, 0, 0), at(0, 0, 0), most, api.OK}, {at(most, 1, 0), at(0, 0, 0), 0, api.ErrRange}, {at(most, 0, -1), at(0, 0, 0), 0, api.ErrRange},
		{at(most-1, 1, 0), at(0, 0, 0), most, api.OK}, {at(most-1, 1, 1), at(0, 0, 0), most, api.OK}, {at(most-1, 1<<32, 0), at(0, 0, 0), 0, api.ErrRange},
		{at(math.MinInt, 0, 0), at(0, 0, 0), 0, api.ErrRange}, {at(math.MinInt, 0, 0), at(-1, 0, 0), most, api.OK}, {at(math.MinInt, 1, 0), at(-1, 0, 0), 0, api.ErrRange},
		{at(48*part, 55*part, 0), at(0, 0, 0), most, api.OK}, {at(0, 48*part, -55*part), at(0, 0, 0), most, api.OK}, {at(48*part, 55*part, 1), at(0, 0, 0), 0, api.ErrRange},
		{at(48*part+1, 55*part, 0), at(0, 0, 0), 0, api.ErrRange}, {at(48*part-1, 55*part, 0), at(0, 0, 0), most, api.OK}, {at(48*part-2, 55*part, 0), at(0, 0, 0), most - 1, api.OK},
		{at(math.MinInt, math.MinInt, math.MinInt), at(most, most, most), 0, api.ErrRange}, {at(most, most, most), at(math.MinInt, math.MinInt, math.MinInt), 0, api.ErrRange},
		{at(math.MinInt, 5, 5), at(most, 5, 5), 0, api.ErrRange}, {at(most, most, most), at(most-1, most-2, most-2), 3, api.OK}, {at(math.MinInt, math.MinInt, 0), at(math.MinInt, math.MinInt+1, 0), 1, api.OK},
		{at(0, most, 0), at(0, -1, 0), 0, api.ErrRange}, {at(0, most-1, 0), at(0, -1, 0), most, api.OK}, {at(1<<32, most, 1), at(1<<32, most, -1), 2, api.OK},
	} {
		divided := claim{wheel(c.from, c.to, at(1, 2, 3), at(4, 5, 7)), tris(c.to, at(1, 2, 3), at(4, 5, 7)), []api.Move{move(c.from, c.to)}}
		divided.wants(t, c.number, c.kind)
		if number, kind := refCheck(divided); number != c.number || kind != c.kind {
			t.Errorf("the reference has %d, %v", number, kind)
		}
	}
}

// P12.1: of several moves, the greatest distance counts, wherever it is.
func TestP12_1GreatestDistance(t *testing.T) {
	for _, points := range permutations(at(-5, 0, 0), at(0, -70, 0), at(0, -3, -4)) {
		for x := -2; x <= 0; x++ { // which changes the order of the moves
			far := points[0]
			points[0] = sum(far, at(x, 0, 0))
			c := gathered(points...)
			c.wants(t, int(refBound(c).Int64()), api.OK)
			points[0] = far
		}
	}
	gathered(at(-5, 0, 0), at(-4, 0, 0), at(-3, 0, 0)).wants(t, 5, api.OK)
	gathered(at(-3, -5, 0), at(-2, -9, 0), at(-1, 0, 0)).wants(t, 10, api.OK) // 5.8, 9.2, 1
	gathered(at(-3, 0, 0), at(-2, 0, 0), at(-1, 0, -9)).wants(t, 10, api.OK)  // 3, 2, 9.06
	gathered(at(-3, 0, 0), at(-2, 0, 0), at(math.MaxInt, 1, 0)).wants(t, 0, api.ErrRange)
	gathered(at(math.MinInt, 0, 0), at(-2, 0, 0), at(-1, 0, 0)).wants(t, 0, api.ErrRange)
	gathered(at(-3, 0, 0), at(0, math.MinInt, math.MinInt), at(math.MaxInt, 0, 0)).wants(t, 0, api.ErrRange)
	gathered(at(-math.MaxInt, 0, 0), at(0, math.MaxInt-3, 0), at(0, 0, math.MaxInt-7)).wants(t, math.MaxInt, api.OK)
}

// P12.1: without moves, the number is 0.
func TestP12_1NoMoves(t *testing.T) {
	far := placed(octahedron(1), func(p api.Point) api.Point {
		return at(p.X*math.MaxInt, p.Y*math.MaxInt, p.Z*math.MaxInt)
	})
	for _, l := range [][]api.Tri{nil, tetrahedron(1), far, far[1:], tris(at(math.MinInt, 0, 0), at(math.MaxInt, 0, 0), at(0, math.MaxInt, math.MinInt))} {
		unchanged(l).wants(t, 0, api.OK)
		claim{l, l, []api.Move{}}.wants(t, 0, api.OK)
	}
}
