package collapse

import (
	"slices"

	"lithophane/api"
	"lithophane/exact"
	"lithophane/quadric"
	"lithophane/wide"
)

// candidate is a collapse of u into v, whether it is allowed or not.
type candidate struct {
	u, v   api.Point
	cost   api.Wide
	number int
}

func (c candidate) pair() [2]api.Point { return [2]api.Point{c.u, c.v} }

// before reports whether c is made before d, if both are allowed.
func (c candidate) before(d candidate) bool {
	switch order := wide.Cmp(c.cost, d.cost); {
	case order != 0:
		return order < 0
	case c.u != d.u:
		return exact.Less(c.u, d.u)
	}
	return exact.Less(c.v, d.v)
}

// run is a simplification on its way. Each candidate is either in the queue, or is
// not allowed and waits for triangles to change. A pair of corners may have had
// several candidates: only the latest of them counts.
type run struct {
	surface  *surface
	quadrics map[api.Point]api.Quadric
	queue    []candidate
	waiting  [][]candidate // by the triangles they wait for
	latest   map[[2]api.Point]int
	issued   int // the number of the latest candidate of all
	made     []api.Move
}

func newRun(s *surface) *run {
	r := &run{
		surface: s, quadrics: map[api.Point]api.Quadric{},
		waiting: make([][]candidate, len(s.triangles)), latest: map[[2]api.Point]int{},
	}
	for p, numbers := range s.around {
		r.quadrics[p] = quadric.Around(s.trianglesOf(numbers), p)
	}
	for _, t := range s.triangles {
		for _, edge := range edgesOf(t) { // of a corner inside, edges lead to all neighbours
			r.propose(edge[0], edge[1])
		}
	}
	return r
}

// propose puts the collapse of u into v in the queue, with the cost that it has
// now, unless it never becomes allowed.
func (r *run) propose(u, v api.Point) {
	if !r.surface.border[u] {
		cost := quadric.At(quadric.Sum(r.quadrics[u], r.quadrics[v]), v)
		r.enqueue(candidate{u: u, v: v, cost: cost})
	}
}

func (r *run) enqueue(c candidate) {
	r.issued++
	c.number = r.issued
	r.latest[c.pair()] = c.number
	r.queue = push(r.queue, c, candidate.before)
}

func (r *run) isLatest(c candidate) bool { return r.latest[c.pair()] == c.number }

// next takes the cheapest allowed candidate out of the queue; false, if there is
// none. The cheaper ones wait from now on.
func (r *run) next() (candidate, bool) {
	for len(r.queue) > 0 {
		var c candidate
		c, r.queue = pop(r.queue, candidate.before)
		if !r.isLatest(c) {
			continue
		}
		allowed, until := r.surface.allows(c.u, c.v)
		if allowed {
			return c, true
		}
		for _, i := range until {
			r.waiting[i] = append(r.waiting[i], c)
		}
	}
	return candidate{}, false
}

// apply makes a collapse that is allowed. Costs change for the corner that has got a
// new quadric, and new edges lead to it only; candidates of the corner that is gone are
// left where they are, as they are not allowed any more.
func (r *run) apply(c candidate) {
	r.made = append(r.made, api.Move{From: c.u, To: c.v})
	r.quadrics[c.v] = quadric.Sum(r.quadrics[c.u], r.quadrics[c.v])
	changed := r.surface.collapse(c.u, c.v)
	for _, t := range r.surface.trianglesOf(r.surface.around[c.v]) {
		for _, edge := range edgesOf(t) {
			if edge[0] == c.v || edge[1] == c.v {
				r.propose(edge[0], edge[1])
			}
		}
	}
	for _, i := range changed {
		r.release(i)
	}
}

// release puts the candidates that wait for the triangle i back in the queue; their
// costs are still right, as others have come after those whose costs have changed.
func (r *run) release(i int) {
	for _, c := range r.waiting[i] {
		if r.isLatest(c) {
			r.enqueue(c)
		}
	}
	r.waiting[i] = nil
}

// moves returns for each corner that is gone where it is in the end.
func (r *run) moves() []api.Move {
	end := map[api.Point]api.Point{}
	var moves []api.Move
	for _, m := range slices.Backward(r.made) { // so that the corners into which others went come first
		if further, found := end[m.To]; found {
			m.To = further
		}
		end[m.From] = m.To
		moves = append(moves, m)
	}
	slices.SortFunc(moves, func(a, b api.Move) int {
		if exact.Less(a.From, b.From) {
			return -1
		}
		return 1 // no corner is moved twice
	})
	return moves
}
