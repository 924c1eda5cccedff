package subdivide_test

import (
	"slices"
	"testing"

	"lithophane/api"
)

// P9.1: the rule for creases, with points of one, two, three and more creases at both
// ends, and with corners. Around the point 0 are 2, 3, 4 and 5.
func TestP9_1Creases(t *testing.T) {
	edge := [2]int{0, 2}
	for _, x := range []struct {
		creases [][2]int
		corners []int
		p, q    int // at 0, and at 2
	}{
		{[][2]int{{0, 2}}, nil, 0, 2},
		{[][2]int{{2, 0}}, nil, 0, 2},
		{[][2]int{{0, 2}, {0, 3}}, nil, 3, 2},
		{[][2]int{{0, 4}, {2, 0}}, nil, 4, 2},
		{[][2]int{{0, 2}, {2, 3}}, nil, 0, 3},
		{[][2]int{{0, 2}, {1, 2}}, nil, 0, 1},
		{[][2]int{{5, 2}, {2, 0}, {0, 4}}, nil, 4, 5},
		{[][2]int{{3, 2}, {2, 0}, {0, 3}}, nil, 3, 3},
		{[][2]int{{0, 2}, {0, 3}, {0, 4}}, nil, 0, 2},
		{[][2]int{{0, 2}, {0, 3}, {0, 4}, {2, 5}}, nil, 0, 5},
		{[][2]int{{0, 2}, {0, 3}, {2, 5}, {2, 3}}, nil, 3, 2},
		{[][2]int{{0, 2}, {0, 3}, {2, 5}, {2, 3}, {2, 1}, {0, 4}, {0, 5}}, nil, 0, 2},
		{[][2]int{{0, 2}, {0, 3}, {2, 1}}, []int{0}, 0, 1},
		{[][2]int{{0, 2}, {0, 3}, {2, 1}}, []int{2}, 3, 2},
		{[][2]int{{0, 2}, {0, 3}, {2, 1}}, []int{0, 2}, 0, 2},
		{[][2]int{{0, 2}, {0, 3}, {2, 1}}, []int{3, 1, 4, 5}, 3, 1},
		{[][2]int{{0, 2}}, []int{0, 0, 2}, 0, 2},
		{[][2]int{{0, 2}, {0, 3}, {0, 4}}, []int{0}, 0, 2},
		{[][2]int{{0, 2}, {3, 4}, {4, 1}}, nil, 0, 2},
	} {
		checkNew(t, octahedron(), x.creases, x.corners, edge, sharp(0, 2, x.p, x.q))
	}
	checkNew(t, octahedron(), [][2]int{{0, 3}, {2, 3}, {2, 1}}, []int{0, 2}, edge, smooth(0, 2, [6]int{3, 5, 1, 4, 1, 4}))
}

// P9.1: closed rings of creases, also those of three edges.
func TestP9_1Rings(t *testing.T) {
	three := [][2]int{{0, 2}, {2, 3}, {3, 0}}
	checkNew(t, octahedron(), three, nil, [2]int{0, 2}, sharp(0, 2, 3, 3))
	checkNew(t, octahedron(), three, nil, [2]int{2, 3}, sharp(2, 3, 0, 0))
	checkNew(t, octahedron(), three, []int{3}, [2]int{3, 0}, sharp(0, 3, 2, 3))
	checkNew(t, tetrahedron(), [][2]int{{0, 1}, {3, 0}, {1, 3}}, nil, [2]int{0, 1}, sharp(0, 1, 3, 3))
	checkNew(t, pillow(), [][2]int{{0, 1}, {2, 0}, {1, 2}}, nil, [2]int{0, 1}, sharp(0, 1, 2, 2))
	four := [][2]int{{3, 2}, {3, 4}, {5, 4}, {5, 2}}
	checkNew(t, octahedron(), four, nil, [2]int{2, 3}, sharp(2, 3, 5, 4))
	checkNew(t, octahedron(), four, nil, [2]int{5, 2}, sharp(5, 2, 4, 3))
	eight := append(slices.Clone(three), [2]int{0, 4}, [2]int{4, 5}, [2]int{5, 0})
	checkNew(t, octahedron(), eight, nil, [2]int{0, 2}, sharp(0, 2, 0, 3))
	checkNew(t, octahedron(), eight, nil, [2]int{4, 5}, sharp(4, 5, 0, 0))
}

// P9.1: it does not matter how often creases and corners are mentioned, in which
// direction and order.
func TestP9_1Mentioned(t *testing.T) {
	several := 0
	forControls(913, 400, func(g *generator, c api.Control) {
		points := fineOf(t, c)
		mentioned := cloned(c)
		for range 2 {
			for _, crease := range c.Creases {
				if g.below(2) == 0 {
					crease[0], crease[1] = crease[1], crease[0]
				}
				mentioned.Creases = append(mentioned.Creases, crease)
			}
			mentioned.Corners = append(mentioned.Corners, c.Corners...)
		}
		mentioned.Creases = mentioned.Creases[len(c.Creases)*g.below(2):]
		shuffle(g, mentioned.Creases)
		shuffle(g, mentioned.Corners)
		if got := fineOf(t, mentioned); !slices.Equal(got, points) {
			t.Fatalf("Fine of %s: %s; of %s: %s", brief(c), brief(points), brief(mentioned), brief(got))
		}
		if len(c.Creases) > 2 {
			several++
		}
	})
	if several < 100 {
		t.Errorf("%d control meshes with several creases", several)
	}
}

// P9.1: behind a step, a crease is two creases, and corners stay; the new point in the
// middle is no corner, and other new edges are no creases.
func TestP9_1FinerCreases(t *testing.T) {
	// The first step adds 4 to 9 to the tetrahedron, 4 between 0 and 1, 7 between 1 and 2;
	// the second one adds 10 between 0 and 4, 13 between 1 and 4, 14 between 1 and 7.
	creases := [][2]int{{0, 1}, {1, 2}}
	inner := refMesh{tris: finerExample()}
	around := func(a, b int) map[int]int {
		c, d := inner.third(a, b), inner.third(b, a)
		return smooth(a, b, [6]int{c, d, inner.third(c, b), inner.third(a, c), inner.third(d, a), inner.third(b, d)})
	}
	for _, x := range []struct {
		corners []int
		factors map[int]map[int]int
	}{
		{nil, map[int]map[int]int{10: sharp(0, 4, 0, 1), 13: sharp(1, 4, 7, 0), 14: sharp(1, 7, 4, 2), 17: sharp(2, 7, 2, 1), 24: around(4, 7), 12: around(0, 6)}},
		{[]int{1}, map[int]map[int]int{10: sharp(0, 4, 0, 1), 13: sharp(1, 4, 1, 0), 14: sharp(1, 7, 1, 2), 17: sharp(2, 7, 2, 1), 24: around(4, 7), 12: around(0, 6)}},
		{[]int{0, 2, 3}, map[int]map[int]int{10: sharp(0, 4, 0, 1), 13: sharp(1, 4, 7, 0), 14: sharp(1, 7, 4, 2), 17: sharp(2, 7, 2, 1), 15: around(1, 8)}},
	} {
		for steps := 2; steps <= 4; steps++ {
			c := tetrahedron().control(steps)
			c.Creases, c.Corners = creases, x.corners
			points := fineOf(t, c)
			for number, factors := range x.factors {
				if want := sixteenth(t, points, factors); points[number] != want {
					t.Errorf("%d steps, corners %v: point %d is at %v, want %v", steps, x.corners, number, points[number], want)
				}
			}
		}
	}
}

// P9.1: creases at points of many triangles, and corners without triangles.
func TestP9_1ManyCreases(t *testing.T) {
	b := bipyramid(9).beside(body{points: 2})
	var spokes [][2]int
	for i := range 9 {
		spokes = append(spokes, [2]int{2 + i, 0})
	}
	checkNew(t, b, spokes, []int{11, 12}, [2]int{0, 5}, sharp(0, 5, 0, 5))
	checkNew(t, b, spokes[3:5], []int{11, 12}, [2]int{0, 5}, sharp(0, 5, 6, 5))
	checkNew(t, b, append(spokes, [2]int{5, 6}), []int{0}, [2]int{0, 5}, sharp(0, 5, 0, 6))
	checkNew(t, b, append(spokes, joined(b.tris)...), nil, [2]int{4, 5}, sharp(4, 5, 4, 5))
}
