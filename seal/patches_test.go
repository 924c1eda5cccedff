package seal_test

import (
	"slices"
	"testing"

	"lithophane/api"
	"lithophane/seal"
)

func patch(least api.Face, dir, edges int) api.Patch {
	return api.Patch{Least: least, Dir: dir, Edges: edges}
}

// checkPatches checks the patches, and all results against the reference.
func checkPatches(t *testing.T, l []api.Edge, level int, want ...api.Patch) refSealed {
	t.Helper()
	if _, got := seal.Seal(l, level); !slices.Equal(got, want) {
		t.Fatalf("Seal of %s, level %d: patches %+v; want %+v", brief(l), level, got, want)
	}
	return check(t, l, level)
}

// P7.2: the document's examples.
func TestP7_2Examples(t *testing.T) {
	checkPatches(t, star(vertex{2, 2, 2}), 2)
	checkPatches(t, star(vertex{2, 2, 2})[1:], 2, patch(face(1, 2, 2, 1), 2, 1))
	checkPatches(t, []api.Edge{edge(2, 1, 1, 0)}, 2, patch(face(0, 1, 0, 0), 0, 1))
}

// P7.2: a single edge is its own patch, in the least direction that is not along it;
// they cancel each other.
func TestP7_2OneEdge(t *testing.T) {
	for level := 1; level <= 4; level++ {
		for _, e := range refGridOf(level).innerEdges() {
			checkSeal(t, []api.Edge{e}, level, fieldOfVertices(level), []api.Patch{onePatch(e)})
		}
	}
}

// onePatch returns the patch of a single edge that is taken away or added.
func onePatch(e api.Edge) api.Patch {
	switch e.Axis {
	case 0:
		return patch(face(1, e.X, e.Y, e.Z-1), 2, 1)
	case 1:
		return patch(face(0, e.X, e.Y, e.Z-1), 0, 1)
	}
	return patch(face(0, e.X, e.Y-1, e.Z), 0, 1)
}

// P7.2: the smallest patch in each of the six directions: a wall beside a side of the
// grid is closed towards this side, as its edges are more than twenty.
func TestP7_2EachDirection(t *testing.T) {
	leasts := [3]func(x int) api.Face{
		func(x int) api.Face { return face(1, x, 2, 1) },
		func(x int) api.Face { return face(0, 2, x, 1) },
		func(x int) api.Face { return face(0, 2, 1, x) },
	}
	for axis := range 3 {
		for side, x := range []int{0, 7} {
			s := checkPatches(t, wall(axis, x, 2, 6), 3, patch(leasts[axis](x), 2*axis+side, 20))
			for _, e := range s.taken[0] {
				if !s.grid.isAtBorder(e) {
					t.Errorf("an edge of the patch that is not at the border: %+v", e)
				}
			}
		}
	}
}

// P7.2: of patches with equally many edges, the one with the least direction.
func TestP7_2Ties(t *testing.T) {
	for _, c := range []struct {
		l     []api.Edge
		dir   int
		sizes [6]int
	}{
		{wall(0, 0, 2, 5), 0, [6]int{16, 128, 16, 16, 16, 16}}, {wall(0, 7, 2, 5), 1, [6]int{128, 16, 16, 16, 16, 16}},
		{wall(1, 0, 2, 5), 0, [6]int{16, 16, 16, 128, 16, 16}}, {wall(1, 7, 2, 5), 0, [6]int{16, 16, 128, 16, 16, 16}},
		{wall(2, 0, 2, 5), 0, [6]int{16, 16, 16, 16, 16, 128}}, {wall(2, 7, 2, 5), 0, [6]int{16, 16, 16, 16, 128, 16}},
		{wall(0, 3, 2, 5), 2, [6]int{64, 80, 16, 16, 16, 16}}, {wall(1, 3, 2, 5), 0, [6]int{16, 16, 64, 80, 16, 16}}, {wall(2, 3, 2, 5), 0, [6]int{16, 16, 16, 16, 64, 80}},
		{ring(0, 3, 2, 5)[1:], 0, [6]int{15, 15, 40, 44, 33, 33}}, {ring(1, 3, 2, 5)[1:], 2, [6]int{33, 33, 15, 15, 40, 44}}, {ring(2, 3, 2, 5)[1:], 4, [6]int{40, 44, 33, 33, 15, 15}},
	} {
		s := check(t, c.l, 3)
		if len(s.patches) != 1 || s.patches[0].Dir != c.dir || s.sizes[0] != c.sizes {
			t.Errorf("Seal of %s: %+v; sizes %v", brief(c.l), s.patches, s.sizes)
		}
	}
}

// P7.2: faces that lie in one row along the direction: edges of the patch that two of
// them contribute cancel each other, for even and for odd numbers of faces.
func TestP7_2Rows(t *testing.T) {
	level := 4
	for axis := range 3 {
		for _, across := range []int{(axis + 1) % 3, (axis + 2) % 3} {
			for length := 1; length <= 12; length++ {
				var l []api.Edge
				for i := range length {
					v := vertex{5, 5, 5}.plus(across, i-3)
					l = append(l, edge(axis, v[0], v[1], v[2]))
				}
				s := check(t, l, level)
				if len(s.patches) != 1 || s.patches[0].Edges != length {
					t.Errorf("Seal of %d edges along the axis %d: %+v", length, across, s.patches)
				}
			}
		}
	}
}

// longestRow returns the greatest number of faces of a component in one row along
// the direction of its patch, and their parity.
func longestRow(component []api.Face, direction int) int {
	longest := 0
	rows := map[api.Face]int{}
	for _, f := range component {
		if f.Axis != direction/2 {
			c := []*int{&f.X, &f.Y, &f.Z}
			*c[direction/2] = 0
			rows[f]++
			longest = max(longest, rows[f])
		}
	}
	return longest
}

// P7.2: of many lists, whose patches are of all kinds.
func TestP7_2Lists(t *testing.T) {
	var strict, border, withGiven [6]int
	shared := 0
	var ties [6][6]int
	rows := map[int]int{}
	count := func(s refSealed) {
		seen := map[api.Edge]bool{}
		for i, p := range s.patches {
			rows[longestRow(s.components[i], p.Dir)]++
			second := nextTie(s.sizes[i], p.Dir)
			if second < 0 {
				strict[p.Dir]++
			} else {
				ties[p.Dir][second]++
			}
			isAtBorder := slices.ContainsFunc(s.taken[i], s.grid.isAtBorder)
			isGiven := slices.ContainsFunc(s.taken[i], func(e api.Edge) bool { return s.given[e] })
			isTaken := slices.ContainsFunc(s.taken[i], func(e api.Edge) bool { return seen[e] })
			add(&border[p.Dir], isAtBorder)
			add(&withGiven[p.Dir], isGiven)
			add(&shared, isTaken)
			for _, e := range s.taken[i] {
				seen[e] = true
			}
		}
	}
	forLists(722, [5]int{0, 500, 4000, 1500, 60}, func(g *generator, l []api.Edge, level int) { count(check(t, l, level)) })
	for d := range 6 {
		if min(strict[d], border[d], withGiven[d]) < 20 {
			t.Errorf("direction %d: %d, at the border %d, with given edges %d", d, strict[d], border[d], withGiven[d])
		}
		for second := d + 1; second < 6; second++ {
			if ties[d][second] < 3 {
				t.Errorf("ties of %d and %d: %d", d, second, ties[d][second])
			}
		}
	}
	if min(rows[1], rows[2], rows[3], rows[4]) < 50 || shared < 5 {
		t.Errorf("faces in a row: %v; patches with edges of others: %d", rows, shared)
	}
}

// nextTie returns the next direction with as many edges, or -1.
func nextTie(sizes [6]int, dir int) int {
	for d := dir + 1; d < 6; d++ {
		if sizes[d] == sizes[dir] {
			return d
		}
	}
	return -1
}

func add(count *int, isTrue bool) {
	if isTrue {
		*count++
	}
}

// P7.2: a patch that consists of given edges alone: they cancel each other.
func TestP7_2PatchOfGivenEdges(t *testing.T) {
	for _, l := range [][]api.Edge{{edge(0, 2, 3, 4)}, {edge(1, 2, 3, 4)}, {edge(2, 2, 3, 4)}, wall(0, 3, 2, 4), wall(1, 3, 2, 4), wall(2, 3, 2, 4), ring(1, 4, 2, 4)[1:]} {
		s := check(t, l, 3)
		if len(s.patches) != 1 || s.patches[0].Edges != len(l) || len(s.set) != 0 {
			t.Errorf("Seal of %s: %+v; the set %v", brief(l), s.patches, s.set)
		}
	}
}

// P7.2: two patches share edges, which cancel each other, and others are given: a
// wall with a hole is closed inside and outside.
func TestP7_2PatchesCancel(t *testing.T) {
	for axis := range 3 {
		l := append(wall(axis, 3, 1, 7), wall(axis, 3, 3, 5)...)
		s := check(t, l, 3)
		if len(s.patches) != 2 || s.patches[0].Edges != 49 || s.patches[1].Edges != 9 || len(s.set) != 0 {
			t.Errorf("Seal of a wall with a hole: %+v; the set %v", s.patches, s.set)
		}
	}
}

// P7.2: two patches towards the same side of the grid share their edges there.
func TestP7_2PatchesShareBorder(t *testing.T) {
	for axis := range 3 {
		for side, x := range []int{1, 14} {
			l := append(wall(axis, x, 2, 14), wall(axis, 15*side, 2, 14)...)
			s := check(t, l, 4)
			dir, sizes := 2*axis+side, []int{s.patches[0].Edges, s.patches[1].Edges}
			slices.Sort(sizes)
			if len(s.patches) != 2 || s.patches[0].Dir != dir || s.patches[1].Dir != dir || !slices.Equal(sizes, []int{52, 104}) || len(s.set) != 2*169+52 {
				t.Errorf("Seal of two walls: %+v; edges of the set: %d", s.patches, len(s.set))
			}
		}
	}
}

// P7.2: the patches are in the order of the least faces, whatever the order of the
// edges is.
func TestP7_2Order(t *testing.T) {
	l := []api.Edge{edge(0, 5, 5, 5), edge(2, 1, 1, 1), edge(1, 1, 5, 5), edge(0, 1, 1, 5), edge(2, 5, 5, 1), edge(1, 5, 1, 1), edge(0, 1, 5, 1)}
	want := []api.Patch{
		patch(face(0, 5, 1, 0), 0, 1), patch(face(0, 1, 0, 1), 0, 1), patch(face(0, 5, 4, 1), 0, 1), patch(face(0, 1, 5, 4), 0, 1),
		patch(face(1, 1, 5, 0), 2, 1), patch(face(1, 1, 1, 4), 2, 1), patch(face(1, 5, 5, 4), 2, 1),
	}
	g := generator(723)
	for range 20 {
		checkPatches(t, l, 3, want...)
		l = shuffled(&g, l)
	}
}

// P7.2: walls of different sizes: the numbers of edges of all of their patches.
func TestP7_2Sizes(t *testing.T) {
	level, n := 4, 16
	for axis := range 3 {
		for x := range n {
			for size := 1; size < n; size += 2 {
				want := min(size*size, 4*size*(x+1), 4*size*(n-x))
				_, patches := seal.Seal(wall(axis, x, 1, size), level)
				if len(patches) != 1 || patches[0].Edges != want {
					t.Errorf("Seal of a wall of %d edges at %d: %+v; want %d", size*size, x, patches, want)
				}
			}
		}
	}
}

// P7.2: without odd faces, there are no patches; nor for other levels.
func TestP7_2NoPatches(t *testing.T) {
	for _, level := range levels() {
		n := cells(level)
		for _, l := range [][]api.Edge{nil, {}, star(vertex{1, 1, 1}), star(vertex{n - 1, 1, n / 2}), strange(level)} {
			if _, patches := seal.Seal(l, level); len(patches) != 0 {
				t.Errorf("Seal of %s, level %d: %+v", brief(l), level, patches)
			}
		}
	}
	for _, level := range noLevels() {
		checkSeal(t, []api.Edge{edge(2, 1, 1, 0)}, level, api.Field{}, nil)
	}
}
