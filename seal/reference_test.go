package seal_test

import (
	"slices"

	"lithophane/api"
)

// vertex is one of the grid, by its coordinates.
type vertex [3]int

func (v vertex) plus(axis, by int) vertex {
	v[axis] += by
	return v
}

// refGrid is the grid of a level: all that there is in it, as the document defines
// it, and in the document's order.
type refGrid struct {
	level, n int
	vertices []vertex
	edges    []api.Edge
	faces    []api.Face
	cells    []vertex
	edgesOf  map[api.Face][]api.Edge
	facesOf  map[vertex][]api.Face // of a cell
}

// refGrids are those that were asked for.
var refGrids = map[int]*refGrid{}

func refGridOf(level int) *refGrid {
	if refGrids[level] == nil {
		refGrids[level] = newRefGrid(level)
	}
	return refGrids[level]
}

func newRefGrid(level int) *refGrid {
	r := &refGrid{level: level, n: 1 << level, edgesOf: map[api.Face][]api.Edge{}, facesOf: map[vertex][]api.Face{}}
	for z := range r.n + 1 {
		for y := range r.n + 1 {
			for x := range r.n + 1 {
				r.vertices = append(r.vertices, vertex{x, y, z})
			}
		}
	}
	for axis := range 3 {
		for _, v := range r.vertices {
			if e := edge(axis, v[0], v[1], v[2]); r.exist(start(e), end(e)) {
				r.edges = append(r.edges, e)
			}
			if f := face(axis, v[0], v[1], v[2]); r.exist(corners(f)...) {
				r.faces = append(r.faces, f)
				r.edgesOf[f] = edgesAmong(corners(f))
			}
		}
	}
	for _, v := range r.vertices {
		if r.exist(cornersOfCell(v)...) {
			r.cells = append(r.cells, v)
			r.facesOf[v] = facesAmong(cornersOfCell(v))
		}
	}
	return r
}

// exist reports whether all of them are vertices of the grid.
func (r *refGrid) exist(all ...vertex) bool {
	for _, v := range all {
		for _, x := range v {
			if x < 0 || x > r.n {
				return false
			}
		}
	}
	return true
}

func start(e api.Edge) vertex { return vertex{e.X, e.Y, e.Z} }

func end(e api.Edge) vertex { return start(e).plus(e.Axis, 1) }

// corners returns the vertices of a face.
func corners(f api.Face) []vertex {
	v := vertex{f.X, f.Y, f.Z}
	u, w := (f.Axis+1)%3, (f.Axis+2)%3
	return []vertex{v, v.plus(u, 1), v.plus(w, 1), v.plus(u, 1).plus(w, 1)}
}

func cornersOfCell(v vertex) []vertex {
	var all []vertex
	for bits := range 8 {
		all = append(all, v.plus(0, bits&1).plus(1, bits>>1&1).plus(2, bits>>2))
	}
	return all
}

// edgesAmong returns the edges with both ends among the vertices.
func edgesAmong(vertices []vertex) []api.Edge {
	var edges []api.Edge
	for _, v := range vertices {
		for axis := range 3 {
			if slices.Contains(vertices, v.plus(axis, 1)) {
				edges = append(edges, edge(axis, v[0], v[1], v[2]))
			}
		}
	}
	return edges
}

// facesAmong returns the faces with all vertices among the vertices.
func facesAmong(vertices []vertex) []api.Face {
	isElsewhere := func(v vertex) bool { return !slices.Contains(vertices, v) }
	var faces []api.Face
	for _, v := range vertices {
		for axis := range 3 {
			f := face(axis, v[0], v[1], v[2])
			if !slices.ContainsFunc(corners(f), isElsewhere) {
				faces = append(faces, f)
			}
		}
	}
	return faces
}

// isAtBorder is the definition for an edge that exists.
func (r *refGrid) isAtBorder(e api.Edge) bool {
	for axis, x := range start(e) {
		if axis != e.Axis && (x == 0 || x == r.n) {
			return true
		}
	}
	return false
}

// innerEdges returns those that do not lie at the border.
func (r *refGrid) innerEdges() []api.Edge {
	return slices.DeleteFunc(slices.Clone(r.edges), r.isAtBorder)
}

// refSealed is what follows from a list of edges.
type refSealed struct {
	grid       *refGrid
	given      map[api.Edge]bool
	odd        []api.Face
	components [][]api.Face
	sizes      [][6]int     // of the patches of each component, by directions
	taken      [][]api.Edge // the edges of the patches that are taken
	patches    []api.Patch
	set        map[api.Edge]bool // those that separate
	inside     map[vertex]bool   // in the sense of P7.3, also at the border
	field      api.Field
}

func refSeal(edges []api.Edge, level int) refSealed {
	r := refSealed{grid: refGridOf(level)}
	r.given = r.grid.given(edges)
	r.odd = r.grid.odd(r.given)
	r.components = r.grid.components(r.odd)
	r.set = onlyTrue(r.given)
	for _, c := range r.components {
		r.choose(c)
	}
	r.inside = r.grid.separate(r.set)
	r.field = r.grid.field(r.inside)
	return r
}

// given counts the edges.
func (r *refGrid) given(edges []api.Edge) map[api.Edge]bool {
	count := map[api.Edge]int{}
	for _, e := range edges {
		count[e]++
	}
	given := map[api.Edge]bool{}
	for _, e := range r.edges {
		if count[e]%2 == 1 && !r.isAtBorder(e) {
			given[e] = true
		}
	}
	return given
}

// odd returns the faces with an odd number of the edges, in order.
func (r *refGrid) odd(edges map[api.Edge]bool) []api.Face {
	var odd []api.Face
	for _, f := range r.faces {
		count := 0
		for _, e := range r.edgesOf[f] {
			if edges[e] {
				count++
			}
		}
		if count%2 == 1 {
			odd = append(odd, f)
		}
	}
	return odd
}

// components gives all faces numbers, and the faces of a cell the least of theirs,
// again and again. The faces are in order.
func (r *refGrid) components(odd []api.Face) [][]api.Face {
	numbers := map[api.Face]int{}
	for i, f := range odd {
		numbers[f] = i
	}
	for changed := true; changed; {
		changed = false
		for _, cell := range r.cells {
			least := len(odd)
			for _, f := range r.facesOf[cell] {
				if number, isOdd := numbers[f]; isOdd {
					least = min(least, number)
				}
			}
			for _, f := range r.facesOf[cell] {
				if number, isOdd := numbers[f]; isOdd && number > least {
					numbers[f] = least
					changed = true
				}
			}
		}
	}
	components := make([][]api.Face, len(odd))
	for _, f := range odd {
		components[numbers[f]] = append(components[numbers[f]], f)
	}
	return slices.DeleteFunc(components, func(c []api.Face) bool { return c == nil })
}

// patch is the definition.
func (r *refGrid) patch(component []api.Face, direction int) []api.Edge {
	a := direction / 2
	odd := map[api.Edge]bool{}
	for _, f := range component {
		m := f.Axis
		if m == a {
			continue
		}
		v := vertex{f.X, f.Y, f.Z}
		first, last := 0, v[a]
		if direction%2 == 1 {
			first, last = v[a]+1, r.n
		}
		for x := first; x <= last; x++ {
			v[a] = x
			e := edge(3-a-m, v[0], v[1], v[2])
			odd[e] = !odd[e]
		}
	}
	return keys(onlyTrue(odd))
}

// choose takes the smallest patch of a component.
func (r *refSealed) choose(component []api.Face) {
	var sizes [6]int
	var edges [6][]api.Edge
	for d := range 6 {
		edges[d] = r.grid.patch(component, d)
		sizes[d] = len(edges[d])
	}
	d := slices.Index(sizes[:], slices.Min(sizes[:]))
	taken := edges[d]
	r.sizes = append(r.sizes, sizes)
	r.taken = append(r.taken, taken)
	r.patches = append(r.patches, api.Patch{Least: component[0], Dir: d, Edges: len(taken)})
	for _, e := range taken {
		r.set[e] = !r.set[e]
	}
	r.set = onlyTrue(r.set)
}

func onlyTrue(set map[api.Edge]bool) map[api.Edge]bool {
	only := map[api.Edge]bool{}
	for e, isTrue := range set {
		if isTrue {
			only[e] = true
		}
	}
	return only
}

// keys returns the edges of a set, in order.
func keys(set map[api.Edge]bool) []api.Edge {
	var l []api.Edge
	for e := range set {
		l = append(l, e)
	}
	slices.SortFunc(l, compareEdges)
	return l
}

func compareEdges(d, e api.Edge) int {
	return slices.Compare([]int{d.Axis, d.Z, d.Y, d.X}, []int{e.Axis, e.Z, e.Y, e.X})
}

// separate goes from vertex to vertex, and returns the inside ones. It panics if
// there is no way to call vertices inside so that the edges separate them.
func (r *refGrid) separate(set map[api.Edge]bool) map[vertex]bool {
	inside := map[vertex]bool{{}: false}
	reached := []vertex{{}}
	for i := 0; i < len(reached); i++ {
		v := reached[i]
		visit := func(w vertex, e api.Edge) {
			_, found := inside[w]
			if r.exist(v, w) && !found {
				inside[w] = inside[v] != set[e]
				reached = append(reached, w)
			}
		}
		for axis := range 3 {
			w := v.plus(axis, -1)
			visit(v.plus(axis, 1), edge(axis, v[0], v[1], v[2]))
			visit(w, edge(axis, w[0], w[1], w[2]))
		}
	}
	for _, e := range r.edges {
		if set[e] != (inside[start(e)] != inside[end(e)]) {
			panic("a set that does not separate vertices")
		}
	}
	return inside
}

// field returns the field of the inside vertices that are not at the border.
func (r *refGrid) field(inside map[vertex]bool) api.Field {
	f := api.Field{Level: r.level}
	for _, v := range r.vertices {
		f.In = append(f.In, inside[v] && !r.isBorderVertex(v))
	}
	return f
}

func (r *refGrid) isBorderVertex(v vertex) bool {
	return slices.Min(v[:]) == 0 || slices.Max(v[:]) == r.n
}
