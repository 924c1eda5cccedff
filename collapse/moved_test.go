package collapse_test

import (
	"slices"
	"testing"

	"lithophane/api"
	"lithophane/exact"
)

// P11.2, condition 6: a moved triangle that is flat. As such a one meets all that it has
// a corner in common with, it must be alone for no other condition to be broken.
func TestP11_2MovedFlat(t *testing.T) {
	u, v := at(8, 5, 9), at(0, 0, 0)
	for y, numbers := range map[int][]int{-1: nil, 0: {6}, 1: {6}} {
		checkBroken(t, wheel(u, v, at(10, y, 0), at(20, 0, 0)), u, v, numbers...)
	}
	u = at(0, 0, 9)
	ring := hexagon()
	ring[1], ring[2] = at(-10, -5, 0), at(-10, -9, 0) // in a row with v
	l := disc(u, ring, placedPoints(scaled(ring, 3), at(0, 0, -20)))
	checkBroken(t, l, u, ring[0], 6, 7)
	checkBroken(t, with(l, ring[1], at(-11, -5, 0)), u, ring[0])
}

// P11.2, condition 6: a triangle that is flat before it is moved.
func TestP11_2FlatBefore(t *testing.T) {
	u := at(10, 0, 0)
	ring := []api.Point{at(-10, 0, 0), at(0, -10, 0), at(10, -5, 0), at(10, 5, 0), at(0, 10, 0)}
	l := disc(u, ring, placedPoints(scaled(ring, 3), at(0, 0, -20)))
	checkBroken(t, l, u, ring[0], 6)
	checkBroken(t, with(l, u, at(9, 0, 0)), at(9, 0, 0), ring[0])
}

// P11.2, condition 6: a triangle that is turned by less than a right angle, by just a
// right angle, and by more: the hub stands on either side of the far edge of its ring,
// or right above it.
func TestP11_2Turned(t *testing.T) {
	ring := []api.Point{at(-10, 0, 0), at(0, -10, 0), at(10, -5, 0), at(10, 5, 0), at(0, 10, 0)}
	outer := placedPoints(scaled(ring, 3), at(0, 0, -20))
	for x, numbers := range map[int][]int{0: nil, 9: nil, 10: {6}, 11: {6}, 12: {6}} {
		u := at(x, 0, 50)
		checkBroken(t, disc(u, ring, outer), u, ring[0], numbers...)
	}
	// In a plane: a corner of the ring just inside the line from v to the one after.
	for x, numbers := range map[int][]int{-10: {6, 7}, -9: {6, 7}, -11: nil} {
		other := []api.Point{at(-10, 10, 0), at(x, 0, 0), at(-10, -10, 0), at(10, -10, 0), at(10, 10, 0)}
		u := at(0, 0, 0)
		checkBroken(t, disc(u, other, scaled(other, 3)), u, other[0], numbers...)
	}
}

// P11.2, condition 6: triangles that do not have both u and v are looked at, all of them.
func TestP11_2TurnedEach(t *testing.T) {
	ring := []api.Point{at(-10, 0, 0), at(-5, -9, 0), at(5, -9, 0), at(10, 0, 0), at(5, 9, 0), at(-5, 9, 0)}
	outer := placedPoints(scaled(ring, 3), at(0, 0, -200))
	for k := 1; k < 5; k++ { // the hub leans over the edge behind corner k
		a, b := ring[k], ring[k+1]
		u := at(a.X+b.X, a.Y+b.Y, 500)
		checkBroken(t, disc(u, ring, outer), u, ring[0], 6)
	}
	for _, k := range []int{0, 5} { // those that go
		a, b := ring[k], ring[(k+1)%6]
		u := at((a.X+b.X)/2+b.Y/10, (a.Y+b.Y)/2, 500)
		checkBroken(t, disc(u, ring, outer), u, ring[0])
	}
}

// P11.2, condition 7: moved triangles meet one of another part, far away in the list:
// with a corner, an edge, its inside, or all of it; with one corner of theirs, and not
// at all if the other one is one step below.
func TestP11_2MovedIntoOther(t *testing.T) {
	u := at(0, 0, 10)
	for _, x := range []struct {
		a, b, c api.Point
		numbers []int
	}{
		{at(3, 0, -5), at(4, 1, -5), at(3, 1, -1), nil}, {at(3, 0, -5), at(4, 1, -5), at(3, 1, 0), []int{7}},
		{at(3, 0, -5), at(4, 1, -5), at(3, 1, 1), []int{7}}, {at(3, 0, -5), at(4, 1, -5), at(3, 1, 5), []int{7}},
		{at(3, 0, -1), at(4, 1, -1), at(3, 1, -5), nil}, {at(3, 0, 0), at(4, 1, 0), at(3, 1, -5), []int{7}}, {at(3, 0, 0), at(4, 1, 0), at(3, 1, 5), []int{7}},
		{at(3, 0, -1), at(4, 1, -1), at(3, 1, -1), nil}, {at(3, 0, 0), at(4, 1, 0), at(3, 1, 0), []int{7}}, {at(3, 0, 1), at(4, 1, 1), at(3, 1, 1), nil},
		{at(-9, 0, -5), at(-9, 0, 5), at(-9, -50, 0), []int{7}}, {at(-11, 0, -5), at(-11, 0, 5), at(-11, -50, 0), nil},
		{at(90, 0, 0), at(90, 9, 0), at(90, 9, 9), nil}, {at(5, 0, -5), at(5, 0, 90), at(6, 0, 90), []int{7}}, {at(5, 0, 9), at(5, 0, 90), at(6, 0, 90), nil},
		{at(-90, -90, 0), at(90, -80, 0), at(0, 90, 0), []int{7}},
	} {
		for _, l := range [][]api.Tri{append(tent(), api.Tri{x.a, x.b, x.c}), append([]api.Tri{{x.a, x.b, x.c}}, tent()...)} {
			checkBroken(t, l, u, at(-10, 0, 0), x.numbers...)
		}
	}
}

// P11.2, condition 7: a flat triangle meets what it touches.
func TestP11_2MovedIntoFlat(t *testing.T) {
	u := at(0, 0, 10)
	for _, x := range []struct {
		a, b, c api.Point
		numbers []int
	}{
		{at(3, 1, -5), at(3, 1, -3), at(3, 1, -1), nil}, {at(3, 1, -5), at(3, 1, -3), at(3, 1, 0), []int{7}}, {at(3, 1, -5), at(3, 1, 5), at(3, 1, 1), []int{7}},
		{at(0, 0, 0), at(1, 1, 0), at(2, 2, 0), []int{7}}, {at(0, 0, -1), at(1, 1, -1), at(2, 2, -1), nil},
	} {
		checkBroken(t, append(tent(), api.Tri{x.a, x.b, x.c}), u, at(-10, 0, 0), x.numbers...)
	}
	// One at a corner of the ring that is at the border: it has that in common with two
	// moved triangles, and none that is away from the corner.
	ring := []api.Point{at(-10, 0, 0), at(5, -9, 0), at(5, 9, 0)}
	for _, x := range []struct {
		b, c    api.Point
		numbers []int
	}{
		{at(5, 9, 30), at(5, 9, 60), []int{7}}, {at(6, 9, 30), at(5, 9, 60), nil}, {at(50, 90, 0), at(500, 900, 0), []int{7}},
	} {
		checkBroken(t, append(wheel(at(0, 0, 4), ring...), api.Tri{ring[2], x.b, x.c}), at(0, 0, 4), ring[0], x.numbers...)
	}
}

// P11.2, condition 7: moved triangles meet those beside them, with which they have an
// edge or a corner in common: a corner of what is around lies in the ring, in the plane
// of the moved triangles, above it, or below.
func TestP11_2MovedIntoNeighbours(t *testing.T) {
	u := at(0, 0, 10)
	for z, numbers := range map[int][]int{-2: nil, -1: nil, 0: {7}, 1: {7}} {
		for k, p := range scaled(hexagon(), 3) {
			q := hexagon()[k]
			inside := at(q.X/2, q.Y/2, z)
			checkBroken(t, with(tent(), sum(p, at(0, 0, -20)), inside), u, at(-10, 0, 0), numbers...)
		}
	}
}

// P11.2, condition 7: moved triangles with one corner in common with another one, whose
// other corners are beside them, beyond them, or such that the edge between these passes
// through.
func TestP11_2MovedIntoCorner(t *testing.T) {
	ring := []api.Point{at(-10, 0, 0), at(5, -9, 0), at(5, 9, 0)}
	u := at(0, 0, 4)
	for _, x := range []struct {
		b, c    api.Point
		numbers []int
	}{
		{at(0, 0, 5), at(0, 0, 9), nil}, {at(0, 0, 5), at(0, 0, -5), []int{7}}, {at(0, 0, 0), at(0, 0, -5), []int{7}}, {at(0, 0, -1), at(0, 0, -5), nil},
		{at(-100, -180, 5), at(-100, -180, -5), []int{7}}, {at(-100, 100, 5), at(-100, 100, -5), nil}, {at(5, 20, 5), at(5, 20, -5), nil},
		{at(-100, -180, 0), at(-180, -100, 0), []int{7}}, {at(20, -9, 0), at(20, 9, 0), nil}, {at(20, 9, 0), at(-200, -9, 0), []int{7}},
	} {
		checkBroken(t, append(wheel(u, ring...), api.Tri{ring[2], x.b, x.c}), u, ring[0], x.numbers...)
	}
}

// P11.2, condition 7: moved triangles meet each other: seen from v, the path a b c d of
// the ring crosses itself, c d below a b, which is an edge of the border.
func TestP11_2MovedIntoMoved(t *testing.T) {
	u, v, a, b, d := at(10, 0, 1000), at(-20, 0, 10), at(0, -10, 0), at(0, 10, 0), at(25, -2, -10)
	for x, numbers := range map[int][]int{15: {7}, 19: {7}, 20: {7}, 21: nil, 22: nil} {
		ring := []api.Point{v, a, b, at(x, 2, -10), d}
		l := disc(u, ring, placedPoints(scaled(ring, 3), at(0, 0, 500)))
		l = slices.DeleteFunc(l, func(tri api.Tri) bool { return refHas(tri, a) && refHas(tri, b) && !refHas(tri, u) })
		checkBroken(t, l, u, v, numbers...)
		for _, m := range refListOf(l).meeting(u, v) {
			if !refHas(m[0], u) || !refHas(m[1], u) {
				t.Errorf("%v meets %v", m[0], m[1])
			}
		}
	}
}

// P11.2, condition 7: what is moved away, or goes, does not count: a triangle of another
// part that passes through those at u, also through those with v, but not through the
// moved ones.
func TestP11_2MovedAway(t *testing.T) {
	u, v := at(0, 0, 10), at(-10, 0, 0)
	for _, x := range []api.Tri{
		{at(3, 0, 1), at(3, 0, 20), at(4, 0, 20)}, {at(-3, 0, 1), at(-3, 0, 20), at(-4, 0, 20)}, {at(-60, 0, 1), at(60, -2, 1), at(60, 2, 1)},
	} {
		if !slices.ContainsFunc(tent(), func(tri api.Tri) bool { return exact.Meet(x, tri) }) {
			t.Errorf("%v does not meet the tent", x)
		}
		checkBroken(t, append(tent(), x), u, v)
	}
}
