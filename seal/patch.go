package seal

import (
	"cmp"
	"iter"
	"slices"

	"lithophane/api"
)

// patch is the patch of a component in a direction: its edges, as runs along the
// axis of the direction, which have no edges in common. As runs, it is small even if
// it reaches from one end of the grid to the other.
type patch struct {
	direction int
	edges     int
	runs      []run
}

// run is a number of edges side by side: each one lies behind the one before it,
// along an axis that is not their own.
type run struct {
	first api.Edge
	edges int
}

// patchesOf returns the patches of the component in all directions.
func patchesOf(component []api.Face, cells int) []patch {
	patches := make([]patch, 6)
	for axis := range 3 {
		lower, greater := &patches[2*axis], &patches[2*axis+1]
		lower.direction, greater.direction = 2*axis, 2*axis+1
		for _, row := range rowsAlong(component, axis) {
			for i, gap := range gapsOf(row, axis, cells) {
				if i%2 == 1 { // there is an odd number of faces before it
					greater.add(gap)
				}
				if (len(row)-i)%2 == 1 { // and behind it
					lower.add(gap)
				}
			}
		}
	}
	return patches
}

func (p *patch) add(r run) {
	p.runs = append(p.runs, r)
	p.edges += r.edges
}

func (p *patch) visitEdges(visit func(api.Edge)) {
	axis := p.direction / 2
	for _, r := range p.runs {
		first := placeOfEdge(r.first)
		for i := range r.edges {
			visit(first.with(axis, first[axis]+i).edge(r.first.Axis))
		}
	}
}

// rowsAlong divides the faces, but for those that are normal to the axis, into rows
// along it, which are in order.
func rowsAlong(faces []api.Face, axis int) [][]api.Face {
	isNormal := func(f api.Face) bool { return f.Axis == axis }
	rowOf := func(f api.Face) api.Face { return placeOfFace(f).with(axis, 0).face(f.Axis) }
	sorted := slices.DeleteFunc(slices.Clone(faces), isNormal)
	slices.SortFunc(sorted, func(f, g api.Face) int {
		return cmp.Or(compareFaces(rowOf(f), rowOf(g)), compareFaces(f, g))
	})
	var rows [][]api.Face
	begin := 0
	for i, f := range sorted {
		if i+1 == len(sorted) || rowOf(sorted[i+1]) != rowOf(f) {
			rows = append(rows, sorted[begin:i+1])
			begin = i + 1
		}
	}
	return rows
}

// gapsOf divides the edges beside the faces of a row along the axis, from one end of
// the grid to the other, into runs: one before each of the faces, with the number of
// faces before it, and one behind the last.
func gapsOf(row []api.Face, axis, cells int) iter.Seq2[int, run] {
	p, along := placeOfFace(row[0]), 3-axis-row[0].Axis
	return func(yield func(int, run) bool) {
		begin := 0
		for i := range len(row) + 1 {
			last := cells
			if i < len(row) {
				last = placeOfFace(row[i])[axis]
			}
			if !yield(i, run{p.with(axis, begin).edge(along), last + 1 - begin}) {
				return
			}
			begin = last + 1
		}
	}
}

// smallest returns the first of the elements with the least size. There is one at least.
func smallest[E any](l []E, size func(E) int) E {
	least := l[0]
	for _, e := range l {
		if size(e) < size(least) {
			least = e
		}
	}
	return least
}
