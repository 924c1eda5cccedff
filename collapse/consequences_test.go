package collapse_test

import (
	"slices"
	"testing"

	"lithophane/api"
	"lithophane/collapse"
	"lithophane/exact"
	"lithophane/mesh"
)

// haveMeeting reports whether two triangles meet.
func haveMeeting(l []api.Tri) bool {
	for i := range l {
		for j := range i {
			if exact.Meet(l[i], l[j]) {
				return true
			}
		}
	}
	return false
}

// borderCorners are the corners of the edges of the border.
func borderCorners(l []api.Tri) map[api.Point]bool {
	corners := map[api.Point]bool{}
	for _, e := range mesh.Border(l) {
		corners[e[0]], corners[e[1]] = true, true
	}
	return corners
}

// checkKept checks what a collapse, or several, must not change.
func checkKept(t *testing.T, l, after []api.Tri) {
	t.Helper()
	if kind := mesh.CheckOpen(after); kind != api.OK {
		t.Fatalf("%s becomes %s: %v", brief(l), brief(after), kind)
	}
	if !slices.Equal(mesh.Border(after), mesh.Border(l)) {
		t.Fatalf("%s becomes %s: the border %v becomes %v", brief(l), brief(after), mesh.Border(l), mesh.Border(after))
	}
	if mesh.Euler(after) != mesh.Euler(l) {
		t.Fatalf("%s becomes %s: the Euler number %d becomes %d", brief(l), brief(after), mesh.Euler(l), mesh.Euler(after))
	}
	isLess := len(after) < len(l) // the surface of two triangles stays as it is
	if mesh.Check(l) == api.OK && (mesh.Check(after) != api.OK || isLess && len(after) < 4) {
		t.Fatalf("%s becomes %s, which is not closed", brief(l), brief(after))
	}
	if !haveMeeting(l) && haveMeeting(after) {
		t.Fatalf("%s becomes %s: triangles meet", brief(l), brief(after))
	}
}

// P11.4: all allowed collapses of many surfaces.
func TestP11_4Collapses(t *testing.T) {
	allowed, closed, withBorder := 0, 0, 0
	check := func(l []api.Tri, u, v api.Point) {
		if !collapse.Allowed(l, u, v) {
			return
		}
		if borderCorners(l)[u] {
			t.Fatalf("Allowed of %s, %v into %v, which moves the border", brief(l), u, v)
		}
		checkKept(t, l, collapse.Collapse(l, u, v))
		allowed++
		if mesh.Check(l) == api.OK {
			closed++
		} else {
			withBorder++
		}
	}
	forShapes(51, 12, func(g *generator, name string, l []api.Tri) {
		for range min(len(l), 12) {
			tri, k := pick(g, l), g.below(3)
			check(l, tri[k], tri[(k+1)%3])
			check(l, tri[(k+1)%3], tri[k])
		}
	})
	forSoups(52, 60, func(g *generator, l []api.Tri) {
		for _, u := range mesh.Corners(l) {
			for _, v := range mesh.Corners(l) {
				check(l, u, v)
			}
		}
	})
	if min(closed, withBorder) < 300 {
		t.Errorf("%d allowed collapses, %d of closed surfaces, %d of others", allowed, closed, withBorder)
	}
}

// P11.4: what Simplify keeps, and where it ends.
func TestP11_4Simplify(t *testing.T) {
	check := func(l []api.Tri) {
		for _, want := range []int{0, len(l) / 2} {
			after, moves := collapse.Simplify(l, want)
			if mesh.CheckOpen(l) == api.OK {
				checkKept(t, l, after)
				checkEnd(t, after, want)
			}
			border := borderCorners(l)
			for _, m := range moves {
				if border[m.From] {
					t.Fatalf("Simplify of %s, %d: %v", brief(l), want, m)
				}
			}
			if 2*len(moves) != len(l)-len(after) {
				t.Fatalf("Simplify of %s, %d: %d triangles, %d moves", brief(l), want, len(after), len(moves))
			}
		}
	}
	forShapes(53, 8, func(g *generator, name string, l []api.Tri) { check(l) })
	forSoups(54, 40, func(g *generator, l []api.Tri) { check(l) })
}

// checkEnd checks that a result has at most want triangles, or that no collapse of it is
// allowed.
func checkEnd(t *testing.T, l []api.Tri, want int) {
	t.Helper()
	if len(l) <= want {
		return
	}
	for u, others := range refNeighboursOf(l) {
		for v := range others {
			if collapse.Allowed(l, u, v) {
				t.Fatalf("the end %s: %v into %v is allowed", brief(l), u, v)
			}
		}
	}
}

// P11.5: moving the corners to where Simplify moved them turns each triangle into one of
// the result, or into one with equal corners, whose different corners are joined; and
// each triangle of the result arises so.
func TestP11_5Moved(t *testing.T) {
	gone := map[int]int{}
	check := func(l []api.Tri, want int) {
		after, moves := collapse.Simplify(l, want)
		to := map[api.Point]api.Point{}
		for _, m := range moves {
			to[m.From] = m.To
		}
		images := placed(l, func(p api.Point) api.Point {
			if q, found := to[p]; found {
				return q
			}
			return p
		})
		left := map[api.Tri]bool{}
		for _, tri := range after {
			left[tri] = true
		}
		joined, arisen := refNeighboursOf(after), map[api.Tri]bool{}
		for i, tri := range images {
			switch corners := mesh.Corners([]api.Tri{tri}); {
			case left[mesh.Rotate(tri)]: // also one with equal corners, if the list is refused
				arisen[mesh.Rotate(tri)] = true
			case len(corners) == 2 && joined[corners[0]][corners[1]], len(corners) == 1 && joined[corners[0]] != nil:
				gone[len(corners)]++
			default:
				t.Fatalf("Simplify of %s, %d: %v becomes %v", brief(l), want, l[i], tri)
			}
		}
		if len(arisen) != len(left) {
			t.Fatalf("Simplify of %s, %d: %d triangles of %d arise", brief(l), want, len(arisen), len(left))
		}
	}
	forShapes(55, 12, func(g *generator, name string, l []api.Tri) {
		check(l, 0)
		check(l, len(l)/2)
	})
	forSoups(56, 60, func(g *generator, l []api.Tri) { check(l, 0) })
	check(ball(6, 100), 0)
	check(torus(20, 12, 700, 300), 60)
	if min(gone[1], gone[2]) < 50 {
		t.Errorf("triangles that became edges %d, corners %d", gone[2], gone[1])
	}
}

// P11.4, P11.5: moves are ordered, lead to corners that stay, and from all that do not.
func TestP11_4Moves(t *testing.T) {
	forShapes(57, 12, func(g *generator, name string, l []api.Tri) {
		after, moves := collapse.Simplify(l, len(l)/3)
		stay := mesh.Corners(after)
		var from []api.Point
		for _, m := range moves {
			if !slices.Contains(stay, m.To) || slices.Contains(stay, m.From) {
				t.Fatalf("Simplify of %s: %v", brief(l), m)
			}
			from = append(from, m.From)
		}
		all := append(slices.Clone(from), stay...)
		slices.SortFunc(all, refComparePoints)
		if !slices.IsSortedFunc(from, refComparePoints) || !slices.Equal(all, mesh.Corners(l)) {
			t.Fatalf("Simplify of %s: moves %v, corners that stay %v", brief(l), moves, stay)
		}
	})
}
