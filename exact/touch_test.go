package exact_test

import (
	"testing"

	"lithophane/api"
	"lithophane/exact"
)

// checkTouch fails unless Touch is as wanted, in all orders of the ends and of the corners (P2.5, P2.7).
func checkTouch(t *testing.T, p, q api.Point, tri api.Tri, want bool) {
	t.Helper()
	for _, turned := range orders(tri) {
		if got := exact.Touch(p, q, turned); got != want {
			t.Errorf("Touch(%v, %v, %v): %v", p, q, turned, got)
		}
		if got := exact.Touch(q, p, turned); got != want {
			t.Errorf("Touch(%v, %v, %v): %v", q, p, turned, got)
		}
	}
}

// A touching is a segment and whether it touches a triangle.
type touching struct {
	p, q api.Point
	want bool
}

func checkTouchings(t *testing.T, tri api.Tri, all []touching) {
	t.Helper()
	for _, place := range placings() {
		for _, x := range all {
			checkTouch(t, place.point(x.p), place.point(x.q), place.tri(tri), x.want)
		}
	}
}

// P2.5: segments that do not lie in the plane of the triangle.
func TestP2_5TouchAcrossThePlane(t *testing.T) {
	checkTouchings(t, triangle(), []touching{
		// a corner
		{at(0, 0, 1), at(0, 0, -1), true},
		// the other corners
		{at(2, 0, 3), at(2, 0, -1), true}, {at(1, 3, 2), at(-1, 3, -2), true},
		{at(5, 5, 1), at(5, 5, -1), false}, {at(-1, 1, 1), at(-1, 1, -1), false},
		// the inside
		{at(1, 1, 3), at(1, 1, -3), true}, {at(1, 0, 1), at(0, 1, -1), true},
		// an edge
		{at(1, 0, 1), at(1, 0, -1), true}, {at(0, 1, 1), at(0, 1, -2), true},
		// the slanted edge
		{at(0, 3, 4), at(2, 0, -4), true}, {at(1, 0, 2), at(1, 3, -2), true},
		// above, below
		{at(1, 1, 3), at(1, 1, 1), false}, {at(1, 1, -3), at(1, 1, -1), false},
		// ends on it
		{at(1, 1, 3), at(1, 1, 0), true}, {at(0, 1, 3), at(0, 1, 0), true}, {at(2, 0, -3), at(2, 0, 0), true},
		// ends beside it
		{at(2, 3, 3), at(2, 3, 0), false}, {at(3, 0, 3), at(3, 0, 0), false}, {at(2, 2, 2), at(2, 2, 0), false},
		// the line of an edge
		{at(-1, 0, 1), at(-1, 0, -1), false}, {at(0, 4, 1), at(0, 4, -1), false},
		// near an edge
		{at(1, 0, 1), at(1, -1, -1), false}, {at(1, 2, 1), at(1, 2, -1), false},
		// a point above
		{at(1, 1, 5), at(1, 1, 5), false},
	})
}

// P2.5: segments, and points, in the plane of the triangle.
func TestP2_5TouchInThePlane(t *testing.T) {
	checkTouchings(t, api.Tri{at(0, 0, 0), at(4, 0, 0), at(0, 4, 0)}, []touching{
		// through, inside, out
		{at(-1, 1, 0), at(9, 1, 0), true}, {at(1, 1, 0), at(2, 1, 0), true}, {at(1, 1, 0), at(9, 9, 0), true},
		// a corner
		{at(-1, 1, 0), at(1, -1, 0), true}, {at(-1, 1, 0), at(0, 0, 0), true}, {at(4, -1, 0), at(4, 1, 0), true}, {at(-2, 2, 0), at(2, 6, 0), true},
		// along an edge
		{at(0, 0, 0), at(4, 0, 0), true}, {at(1, 0, 0), at(2, 0, 0), true}, {at(-2, 0, 0), at(9, 0, 0), true}, {at(-2, 0, 0), at(0, 0, 0), true},
		// the line of an edge
		{at(5, 0, 0), at(9, 0, 0), false}, {at(-3, 0, 0), at(-1, 0, 0), false}, {at(5, -1, 0), at(6, -2, 0), false},
		// an end on an edge
		{at(2, 2, 0), at(5, 5, 0), true}, {at(2, -3, 0), at(2, 0, 0), true}, {at(0, 1, 0), at(-2, 1, 0), true},
		// beside
		{at(3, 2, 0), at(5, 5, 0), false}, {at(-1, 4, 0), at(-1, -4, 0), false}, {at(1, 4, 0), at(4, 1, 0), false},
		{at(2, -3, 0), at(2, -1, 0), false}, {at(-2, 1, 0), at(1, -2, 0), false}, {at(-3, 2, 0), at(-1, 1, 0), false},
		// points
		{at(1, 1, 0), at(1, 1, 0), true}, {at(2, 0, 0), at(2, 0, 0), true}, {at(2, 2, 0), at(2, 2, 0), true}, {at(0, 4, 0), at(0, 4, 0), true},
		{at(3, 2, 0), at(3, 2, 0), false}, {at(5, 0, 0), at(5, 0, 0), false}, {at(-1, -1, 0), at(-1, -1, 0), false},
		// a parallel plane
		{at(1, 1, 1), at(2, 1, 1), false}, {at(1, 1, -1), at(9, 1, -1), false},
	})
}

// P2.5: triangles that are segments, with or without equal corners.
func TestP2_5TouchOfSegments(t *testing.T) {
	for _, tri := range []api.Tri{{at(0, 0, 0), at(4, 4, 0), at(2, 2, 0)}, {at(0, 0, 0), at(4, 4, 0), at(3, 3, 0)}, {at(0, 0, 0), at(4, 4, 0), at(4, 4, 0)}} {
		checkTouchings(t, tri, []touching{
			{at(0, 4, 0), at(4, 0, 0), true}, {at(1, 0, 0), at(1, 9, 0), true}, {at(3, 0, 0), at(3, 3, 0), true}, {at(3, 3, 5), at(3, 3, -5), true},
			{at(0, 0, 5), at(0, 0, -1), true}, {at(4, 4, 0), at(9, 0, 3), true}, {at(5, 3, 1), at(3, 5, -1), true},
			{at(-1, -1, 0), at(0, 0, 0), true}, {at(1, 1, 0), at(2, 2, 0), true}, {at(-3, -3, 0), at(8, 8, 0), true}, {at(3, 3, 0), at(7, 7, 0), true},
			{at(-3, -3, 0), at(-1, -1, 0), false}, {at(5, 5, 0), at(6, 6, 0), false}, {at(0, 1, 0), at(3, 4, 0), false}, {at(0, 4, 0), at(1, 2, 0), false},
			{at(5, 0, 0), at(5, 9, 0), false}, {at(0, 4, 1), at(4, 0, 1), false}, {at(0, 4, 1), at(4, 0, 2), false}, {at(6, 3, 1), at(4, 5, -1), false},
			{at(0, 4, 0), at(4, 0, 1), false}, {at(3, 3, 0), at(3, 3, 0), true}, {at(0, 0, 0), at(0, 0, 0), true},
			{at(5, 5, 0), at(5, 5, 0), false}, {at(3, 2, 0), at(3, 2, 0), false}, {at(1, 1, 1), at(1, 1, 1), false},
		})
	}
}

// P2.5: triangles that are points.
func TestP2_5TouchOfPoints(t *testing.T) {
	checkTouchings(t, api.Tri{at(1, 2, 3), at(1, 2, 3), at(1, 2, 3)}, []touching{
		{at(1, 2, 3), at(1, 2, 3), true}, {at(1, 2, 3), at(7, 0, 7), true}, {at(0, 0, 0), at(2, 4, 6), true}, {at(0, 2, 3), at(2, 2, 3), true},
		{at(1, 2, 4), at(1, 2, 4), false}, {at(0, 0, 0), at(2, 4, 5), false}, {at(2, 4, 6), at(3, 6, 9), false}, {at(0, 0, 0), at(0, 0, 0), false},
		{at(0, 2, 4), at(2, 2, 4), false},
	})
}

// P2.5: Touch everywhere, as linear programming finds it.
func TestP2_5Touch(t *testing.T) {
	var seen, seenFlat [2]int
	forSpaces(400, func(g *generator, coordinates []int) {
		p, q, tri := g.flatter(coordinates), g.flatter(g.or(coordinates)), g.tri(coordinates)
		want := haveCommonPoint([]api.Point{p, q}, tri[:])
		if got := exact.Touch(p, q, tri); got != want {
			t.Errorf("Touch(%v, %v, %v): %v", p, q, tri, got)
		}
		count := &seen
		if exact.Flat(tri) {
			count = &seenFlat
		}
		if want {
			count[1]++
		} else {
			count[0]++
		}
	})
	if min(seen[0], seen[1], seenFlat[0], seenFlat[1]) < 100 {
		t.Errorf("answers: %d, of flat triangles: %d", seen, seenFlat)
	}
}

// P2.7: Touch depends neither on the order of the ends nor on that of the corners.
func TestP2_7TouchInAllOrders(t *testing.T) {
	forSpaces(60, func(g *generator, coordinates []int) {
		p, q, tri := g.flatter(coordinates), g.flatter(coordinates), g.tri(coordinates)
		checkTouch(t, p, q, tri, exact.Touch(p, q, tri))
	})
}
