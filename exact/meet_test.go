package exact_test

import (
	"testing"

	"lithophane/api"
	"lithophane/exact"
)

// checkMeet fails unless Meet is as wanted, in all orders of the triangles and of their corners (P2.6, P2.7).
func checkMeet(t *testing.T, s, u api.Tri, want bool) {
	t.Helper()
	for _, a := range orders(s) {
		for _, b := range orders(u) {
			if got := exact.Meet(a, b); got != want {
				t.Errorf("Meet(%v, %v): %v", a, b, got)
			}
			if got := exact.Meet(b, a); got != want {
				t.Errorf("Meet(%v, %v): %v", b, a, got)
			}
		}
	}
}

// A meeting is a triangle and whether it meets another one.
type meeting struct {
	t    api.Tri
	want bool
}

func checkMeetings(t *testing.T, s api.Tri, all []meeting) {
	t.Helper()
	for _, place := range placings() {
		for _, x := range all {
			checkMeet(t, place.tri(s), place.tri(x.t), x.want)
		}
	}
}

// P2.6: triangles without common corners.
func TestP2_6MeetWithoutCommonCorners(t *testing.T) {
	checkMeetings(t, api.Tri{at(0, 0, 0), at(4, 0, 0), at(0, 4, 0)}, []meeting{
		// an edge passes through
		{api.Tri{at(1, 1, 1), at(1, 1, -1), at(5, 5, 0)}, true}, {api.Tri{at(1, 1, 1), at(2, 1, 1), at(1, 2, -1)}, true},
		// the edges of the first one pass through
		{api.Tri{at(-1, -1, 1), at(-1, -1, -1), at(5, 5, 0)}, true},
		// a corner touches
		{api.Tri{at(1, 1, 0), at(1, 1, 5), at(2, 2, 5)}, true}, {api.Tri{at(2, 2, 0), at(5, 5, 5), at(5, 5, 0)}, true},
		// edges touch
		{api.Tri{at(2, -1, 1), at(2, 1, -1), at(2, -2, -2)}, true}, {api.Tri{at(0, -2, 0), at(2, 2, 2), at(2, 2, -2)}, true},
		// a corner touches an edge
		{api.Tri{at(0, 5, 1), at(0, 3, -1), at(0, 9, 0)}, true},
		// inside, around
		{api.Tri{at(1, 1, 0), at(2, 1, 0), at(1, 2, 0)}, true}, {api.Tri{at(-9, -9, 0), at(9, -2, 0), at(-2, 9, 0)}, true},
		// in the plane
		{api.Tri{at(-1, 1, 0), at(5, 1, 0), at(-1, 2, 0)}, true}, {api.Tri{at(-1, -1, 0), at(2, -1, 0), at(2, 0, 0)}, true},
		// beside, in the plane
		{api.Tri{at(3, 2, 0), at(2, 3, 0), at(5, 5, 0)}, false}, {api.Tri{at(-1, 0, 0), at(-1, 9, 0), at(-9, 0, 0)}, false},
		// above
		{api.Tri{at(1, 1, 1), at(2, 1, 1), at(1, 2, 1)}, false}, {api.Tri{at(1, 1, 1), at(2, 1, 9), at(1, 2, 1)}, false},
		// beside
		{api.Tri{at(3, 3, 1), at(3, 3, -1), at(9, 9, 0)}, false}, {api.Tri{at(3, 2, 1), at(2, 3, -1), at(4, 4, 0)}, false},
		{api.Tri{at(5, 0, 0), at(9, 0, 0), at(5, 4, 0)}, false},
	})
}

// P2.6: a flat triangle meets whatever it has a common point with, also a common corner.
func TestP2_6MeetOfFlatTriangles(t *testing.T) {
	all := []meeting{
		// a common corner
		{api.Tri{at(0, 0, 0), at(0, 0, 0), at(0, 0, 0)}, true}, {api.Tri{at(0, 0, 0), at(-1, 0, 0), at(-2, 0, 0)}, true},
		{api.Tri{at(0, 0, 0), at(0, 0, 5), at(0, 0, 5)}, true}, {api.Tri{at(0, 0, 0), at(4, 0, 0), at(8, 0, 0)}, true},
		{api.Tri{at(0, 0, 0), at(4, 0, 0), at(4, 0, 0)}, true}, {api.Tri{at(4, 0, 0), at(5, 0, 1), at(6, 0, 2)}, true},
		// none
		{api.Tri{at(1, 1, 0), at(1, 1, 0), at(1, 1, 0)}, true}, {api.Tri{at(1, 1, 2), at(1, 1, 1), at(1, 1, -1)}, true},
		{api.Tri{at(-1, 2, 0), at(1, 2, 0), at(3, 2, 0)}, true}, {api.Tri{at(-1, 1, 0), at(1, -1, 0), at(1, -1, 0)}, true},
		{api.Tri{at(3, 3, 0), at(3, 3, 0), at(3, 3, 0)}, false}, {api.Tri{at(1, 1, 2), at(1, 1, 1), at(1, 1, 1)}, false},
		{api.Tri{at(5, 0, 0), at(6, 0, 0), at(7, 0, 0)}, false}, {api.Tri{at(3, 3, 1), at(3, 3, 0), at(3, 3, -1)}, false},
	}
	checkMeetings(t, api.Tri{at(0, 0, 0), at(4, 0, 0), at(0, 4, 0)}, all)
	checkMeetings(t, api.Tri{at(0, 0, 0), at(4, 0, 0), at(2, 0, 0)}, []meeting{
		all[0], all[1], all[2], all[3], all[4], all[5], all[10], all[11], all[12], all[13], {all[6].t, false}, {all[8].t, false},
		{api.Tri{at(3, 0, 0), at(3, 0, 0), at(3, 0, 0)}, true}, {api.Tri{at(3, -1, 0), at(3, 0, 0), at(3, 1, 0)}, true},
		{api.Tri{at(-2, 0, 0), at(1, 0, 0), at(-1, 0, 0)}, true}, {api.Tri{at(1, -1, 1), at(1, 1, -1), at(9, 9, 9)}, true},
	})
	checkMeetings(t, api.Tri{at(1, 1, 1), at(1, 1, 1), at(1, 1, 1)}, []meeting{
		{api.Tri{at(1, 1, 1), at(1, 1, 1), at(1, 1, 1)}, true}, {api.Tri{at(2, 2, 2), at(2, 2, 2), at(2, 2, 2)}, false},
		{api.Tri{at(0, 0, 0), at(2, 2, 2), at(3, 3, 3)}, true}, {api.Tri{at(3, 0, 0), at(0, 3, 0), at(0, 0, 3)}, true},
		{api.Tri{at(3, 0, 0), at(0, 3, 0), at(0, 0, 4)}, false},
	})
}

// P2.6: triangles with one common corner.
func TestP2_6MeetWithOneCommonCorner(t *testing.T) {
	checkMeetings(t, triangle(), []meeting{
		{api.Tri{at(0, 0, 0), at(1, 1, 5), at(-1, 2, 5)}, false}, {api.Tri{at(0, 0, 0), at(1, 1, 0), at(-1, 2, 5)}, true},
		// less or more far than the edge
		{api.Tri{at(0, 0, 0), at(1, 1, 5), at(1, 1, -5)}, true}, {api.Tri{at(0, 0, 0), at(5, 5, 5), at(5, 5, -5)}, true},
		{api.Tri{at(0, 0, 0), at(-1, -1, 5), at(-1, -1, -5)}, false}, {api.Tri{at(0, 0, 0), at(5, -1, 5), at(5, -1, -5)}, false},
		// along an edge
		{api.Tri{at(0, 0, 0), at(1, 0, 0), at(0, 0, 5)}, true}, {api.Tri{at(0, 0, 0), at(9, 0, 0), at(0, 0, 5)}, true},
		// touching an edge
		{api.Tri{at(0, 0, 0), at(-1, 0, 0), at(0, 0, 5)}, false}, {api.Tri{at(0, 0, 0), at(1, 0, 1), at(1, 0, -1)}, true},
		// in the plane
		{api.Tri{at(0, 0, 0), at(-1, 0, 0), at(0, -1, 0)}, false}, {api.Tri{at(0, 0, 0), at(1, -1, 0), at(-1, -1, 0)}, false},
		{api.Tri{at(0, 0, 0), at(1, 1, 0), at(1, -1, 0)}, true}, {api.Tri{at(0, 0, 0), at(9, 9, 0), at(9, -9, 0)}, true},
		{api.Tri{at(0, 0, 0), at(4, 1, 0), at(1, 4, 0)}, true}, {api.Tri{at(0, 0, 0), at(9, -1, 0), at(-1, 9, 0)}, true},
		{api.Tri{at(2, 0, 0), at(3, 0, 0), at(3, 1, 0)}, false}, {api.Tri{at(0, 3, 0), at(-2, 6, 0), at(1, 1, 5)}, false},
		{api.Tri{at(0, 3, 0), at(4, -3, 0), at(1, 1, 5)}, true}, {api.Tri{at(2, 0, 0), at(0, 1, 3), at(0, 1, -1)}, true},
	})
}

// P2.6: triangles with two common corners.
func TestP2_6MeetWithTwoCommonCorners(t *testing.T) {
	checkMeetings(t, triangle(), []meeting{
		{api.Tri{at(2, 0, 0), at(0, 0, 0), at(1, -4, 0)}, false}, {api.Tri{at(2, 0, 0), at(0, 0, 0), at(1, 4, 0)}, true},
		{api.Tri{at(2, 0, 0), at(0, 0, 0), at(1, 4, 1)}, false}, {api.Tri{at(2, 0, 0), at(0, 0, 0), at(1, 4, -1)}, false},
		{api.Tri{at(2, 0, 0), at(0, 0, 0), at(-9, 1, 0)}, true}, {api.Tri{at(2, 0, 0), at(0, 0, 0), at(-9, -1, 0)}, false},
		{api.Tri{at(2, 0, 0), at(0, 0, 0), at(1, 1, 0)}, true}, {api.Tri{at(2, 0, 0), at(0, 0, 0), at(0, 0, 7)}, false},
		{api.Tri{at(2, 0, 0), at(0, 3, 0), at(2, 3, 0)}, false}, {api.Tri{at(2, 0, 0), at(0, 3, 0), at(1, 1, 0)}, true}, {api.Tri{at(2, 0, 0), at(0, 3, 0), at(-5, -5, 0)}, true},
		{api.Tri{at(0, 0, 0), at(0, 3, 0), at(-1, 1, 0)}, false}, {api.Tri{at(0, 0, 0), at(0, 3, 0), at(9, 9, 0)}, true},
	})
}

// P2.6: triangles with three common corners.
func TestP2_6MeetWithThreeCommonCorners(t *testing.T) {
	checkMeetings(t, triangle(), []meeting{{triangle(), true}})
	flat := api.Tri{at(0, 0, 0), at(1, 1, 1), at(2, 2, 2)}
	checkMeetings(t, flat, []meeting{{flat, true}})
}

// wantMeet is P2.7: whether the triangles have a common point beside what they
// have in common as corners of both.
func wantMeet(s, t api.Tri) (want bool, common int) {
	var both, restOfS, restOfT []api.Point
	has := func(t api.Tri, p api.Point) bool { return t[0] == p || t[1] == p || t[2] == p }
	for i := range 3 {
		if has(t, s[i]) {
			both = append(both, s[i])
		} else {
			restOfS = append(restOfS, s[i])
		}
		if !has(s, t[i]) {
			restOfT = append(restOfT, t[i])
		}
	}
	switch {
	case len(both) == 0 || bigFlat(s) || bigFlat(t):
		return haveCommonPoint(s[:], t[:]), len(both)
	case len(both) == 1:
		return haveCommonRay(both[0], restOfS[0], restOfS[1], restOfT[0], restOfT[1]), 1
	case len(both) == 2:
		return haveCommonHalfPlane(both[0], both[1], restOfS[0], restOfT[0]), 2
	}
	return true, 3
}

// P2.6, P2.7: Meet everywhere, as linear programming finds it.
func TestP2_6Meet(t *testing.T) {
	var seen [2][2][3]int
	forSpaces(600, func(g *generator, coordinates []int) {
		s, u := g.tri(coordinates), g.tri(coordinates)
		for i := range g.below(3) {
			u[i] = s[2-i]
		}
		want, common := wantMeet(s, u)
		if got := exact.Meet(s, u); got != want {
			t.Errorf("Meet(%v, %v): %v", s, u, got)
		}
		flat, meet := 0, 0
		if bigFlat(s) || bigFlat(u) {
			flat = 1
		}
		if want {
			meet = 1
		}
		if common < 3 {
			seen[flat][meet][common]++
		}
	})
	for common := range 3 {
		if min(seen[0][0][common], seen[0][1][common], seen[1][1][common], seen[1][0][0]) < 50 {
			t.Errorf("answers: %d", seen)
		}
	}
}

// P2.7: Meet depends neither on the order of the triangles nor on that of the corners.
func TestP2_7MeetInAllOrders(t *testing.T) {
	forSpaces(15, func(g *generator, coordinates []int) {
		s, u := g.tri(coordinates), g.tri(coordinates)
		for i := range g.below(4) {
			u[i] = s[2-i]
		}
		checkMeet(t, s, u, exact.Meet(s, u))
	})
}
