package collapse_test

import (
	"cmp"
	"slices"
	"testing"

	"lithophane/api"
	"lithophane/exact"
	"lithophane/mesh"
	"lithophane/quadric"
	"lithophane/wide"
)

// The reference says what the document says, word by word, with the functions of the
// layers below that it names, and looks at everything anew for each collapse.

func refMoved(tri api.Tri, u, v api.Point) api.Tri {
	for i := range tri {
		if tri[i] == u {
			tri[i] = v
		}
	}
	return tri
}

func refHas(tri api.Tri, p api.Point) bool { return slices.Contains(tri[:], p) }

func refCollapse(l []api.Tri, u, v api.Point) []api.Tri {
	var all []api.Tri
	for _, tri := range l {
		m := refMoved(tri, u, v)
		if m[0] != m[1] && m[0] != m[2] && m[1] != m[2] {
			all = append(all, m)
		}
	}
	return mesh.Canon(all)
}

// refNeighbours are, for each corner of a list, the points that are joined with it.
type refNeighbours map[api.Point]map[api.Point]bool

func refNeighboursOf(l []api.Tri) refNeighbours {
	n := refNeighbours{}
	for _, tri := range l {
		for _, p := range tri {
			for _, q := range tri {
				if n[p] == nil {
					n[p] = map[api.Point]bool{}
				}
				if p != q {
					n[p][q] = true
				}
			}
		}
	}
	return n
}

func (n refNeighbours) common(u, v api.Point) int {
	count := 0
	for p := range n[u] {
		if n[v][p] {
			count++
		}
	}
	return count
}

// refList is a list with what the conditions ask for.
type refList struct {
	l          []api.Tri
	open       api.Errno
	neighbours refNeighbours
	border     map[api.Point]bool
}

func refListOf(l []api.Tri) refList {
	r := refList{l, mesh.CheckOpen(l), refNeighboursOf(l), map[api.Point]bool{}}
	for _, e := range mesh.Border(l) {
		r.border[e[0]], r.border[e[1]] = true, true
	}
	return r
}

// conditions returns for each of the seven conditions a function that tells whether
// it holds.
func (r refList) conditions(u, v api.Point) [7]func() bool {
	return [7]func() bool{
		func() bool { return r.open == api.OK },
		func() bool { return r.neighbours[u][v] && !r.border[u] },
		func() bool { return r.neighbours.common(u, v) == 2 },
		func() bool { return !refHaveTwins(refCollapse(r.l, u, v)) },
		func() bool { return r.joinsNoBorder(refCollapse(r.l, u, v)) },
		func() bool { return r.turnsNothing(u, v) },
		func() bool { return r.meetsNothing(u, v) },
	}
}

func refHaveTwins(l []api.Tri) bool {
	seen := map[api.Tri]bool{}
	for _, tri := range l {
		slices.SortFunc(tri[:], refComparePoints)
		if seen[tri] {
			return true
		}
		seen[tri] = true
	}
	return false
}

func (r refList) joinsNoBorder(result []api.Tri) bool {
	for p, others := range refNeighboursOf(result) {
		for q := range others {
			if r.border[p] && r.border[q] && !r.neighbours[p][q] {
				return false
			}
		}
	}
	return true
}

func (r refList) turnsNothing(u, v api.Point) bool {
	for _, tri := range r.l {
		if m := refMoved(tri, u, v); refHas(tri, u) && !refHas(tri, v) && (exact.Flat(m) || exact.Facing(tri, m) != 1) {
			return false
		}
	}
	return true
}

func (r refList) meetsNothing(u, v api.Point) bool {
	meeting := r.meeting(u, v)
	return len(meeting) == 0
}

// meeting returns the triangles that a moved one and another one of the result were
// made of, if these meet.
func (r refList) meeting(u, v api.Point) [][2]api.Tri {
	var all [][2]api.Tri
	for i, s := range r.l {
		if !refHas(s, u) || refHas(s, v) {
			continue
		}
		for j, tri := range r.l {
			m := refMoved(tri, u, v)
			isThere := m[0] != m[1] && m[0] != m[2] && m[1] != m[2]
			if i != j && isThere && exact.Meet(refMoved(s, u, v), m) {
				all = append(all, [2]api.Tri{s, tri})
			}
		}
	}
	return all
}

// broken returns the numbers of the conditions that do not hold.
func (r refList) broken(u, v api.Point) []int {
	var numbers []int
	for k, holds := range r.conditions(u, v) {
		if !holds() {
			numbers = append(numbers, k+1)
		}
	}
	return numbers
}

// allowed asks first for what is told soonest.
func (r refList) allowed(u, v api.Point) bool {
	conditions := r.conditions(u, v)
	for _, k := range []int{1, 2, 3, 6, 4, 5, 7} {
		if !conditions[k-1]() {
			return false
		}
	}
	return true
}

func refComparePoints(a, b api.Point) int {
	return cmp.Or(cmp.Compare(a.X, b.X), cmp.Compare(a.Y, b.Y), cmp.Compare(a.Z, b.Z))
}

// refStep is a collapse that a simplification makes.
type refStep struct {
	u, v api.Point
	cost api.Wide
}

// refRun is a simplification: the lists that its steps make, the first one without any.
type refRun struct {
	lists [][]api.Tri
	steps []refStep
}

// refSimplification simplifies l. The quadrics are those of the document, if anew is
// false; otherwise they are computed anew from each list.
func refSimplification(l []api.Tri, want int, anew bool) refRun {
	run := refRun{lists: [][]api.Tri{mesh.Canon(l)}}
	if mesh.CheckOpen(l) != api.OK {
		return run
	}
	quadrics := map[api.Point]api.Quadric{}
	for _, p := range mesh.Corners(l) {
		quadrics[p] = quadric.Around(l, p)
	}
	for list := l; len(list) > want; {
		if anew {
			for _, p := range mesh.Corners(list) {
				quadrics[p] = quadric.Around(list, p)
			}
		}
		r := refListOf(list)
		steps := r.candidates(quadrics)
		k := slices.IndexFunc(steps, func(s refStep) bool { return r.allowed(s.u, s.v) })
		if k < 0 {
			break
		}
		s := steps[k]
		list = refCollapse(list, s.u, s.v)
		quadrics[s.v] = quadric.Sum(quadrics[s.u], quadrics[s.v])
		run.lists, run.steps = append(run.lists, list), append(run.steps, s)
	}
	return run
}

// candidates returns the collapses between corners that are joined, in the order in
// which they are preferred.
func (r refList) candidates(quadrics map[api.Point]api.Quadric) []refStep {
	var all []refStep
	for u, others := range r.neighbours {
		for v := range others {
			all = append(all, refStep{u, v, quadric.At(quadric.Sum(quadrics[u], quadrics[v]), v)})
		}
	}
	slices.SortFunc(all, func(a, b refStep) int {
		return cmp.Or(wide.Cmp(a.cost, b.cost), refComparePoints(a.u, b.u), refComparePoints(a.v, b.v))
	})
	return all
}

// until returns the part of the simplification that leads to at most want triangles.
func (run refRun) until(want int) refRun {
	k := slices.IndexFunc(run.lists, func(l []api.Tri) bool { return len(l) <= want })
	if k < 0 {
		return run
	}
	return refRun{run.lists[:k+1], run.steps[:k]}
}

// result returns what Simplify returns.
func (run refRun) result() ([]api.Tri, []api.Move) {
	last := run.lists[len(run.lists)-1]
	left := map[api.Point]bool{}
	for _, p := range mesh.Corners(last) {
		left[p] = true
	}
	var moves []api.Move
	for _, from := range mesh.Corners(run.lists[0]) {
		if left[from] {
			continue
		}
		to := from
		for _, s := range run.steps {
			if s.u == to {
				to = s.v
			}
		}
		moves = append(moves, api.Move{From: from, To: to})
	}
	return last, moves
}

func refSimplify(l []api.Tri, want int) ([]api.Tri, []api.Move) {
	return refSimplification(l, want, false).result()
}

// The reference finds what is known.
func TestReference(t *testing.T) {
	l := octahedron(10)
	for _, x := range []struct {
		u, v   api.Point
		broken []int
	}{
		{at(10, 0, 0), at(0, 10, 0), nil}, {at(10, 0, 0), at(-10, 0, 0), []int{2, 3, 4, 6, 7}},
	} {
		if got := refListOf(l).broken(x.u, x.v); !slices.Equal(got, x.broken) {
			t.Errorf("%v to %v: conditions %v", x.u, x.v, got)
		}
	}
	run := refSimplification(l, 7, false)
	if want := (refStep{at(-10, 0, 0), at(0, -10, 0), wide.From(8000000)}); !slices.Equal(run.steps, []refStep{want}) {
		t.Errorf("steps: %v", run.steps)
	}
	if got := refListOf(tetrahedron()).broken(at(0, 0, 0), at(1, 0, 0)); !slices.Contains(got, 4) {
		t.Errorf("tetrahedron: conditions %v", got)
	}
}
