package contour_test

import (
	"fmt"
	"maps"
	"math/bits"
	"slices"
	"testing"

	"lithophane/api"
	"lithophane/contour"
	"lithophane/mesh"
)

// cellOf returns the cell of a triangle, which does not lie on one of its faces.
func cellOf(t api.Tri, level int) vertex {
	h := 3 * length(level)
	return vertex{(t[0].X + t[1].X + t[2].X) / h, (t[0].Y + t[1].Y + t[2].Y) / h, (t[0].Z + t[1].Z + t[2].Z) / h}
}

func trianglesIn(l []api.Tri, level int, cell vertex) []api.Tri {
	isElsewhere := func(t api.Tri) bool { return cellOf(t, level) != cell }
	return slices.DeleteFunc(slices.Clone(l), isElsewhere)
}

// isCentre reports whether a corner lies strictly inside of a cell.
func isCentre(p api.Point, level int) bool {
	h := length(level)
	return p.X%h != 0 && p.Y%h != 0 && p.Z%h != 0
}

// lengths returns the numbers of crossings of the cycles of a cell, in order, by its
// triangles: each cycle of more than three crossings has as many around its centre.
func lengths(l []api.Tri, level int) []int {
	var all []int
	centres := map[api.Point]int{}
	for _, t := range l {
		i := slices.IndexFunc(t[:], func(p api.Point) bool { return isCentre(p, level) })
		if i < 0 {
			all = append(all, 3)
		} else {
			centres[t[i]]++
		}
	}
	return slices.Sorted(slices.Values(append(all, slices.Collect(maps.Values(centres))...)))
}

// regions returns for each vertex of a cell the least one that is connected with it on
// the surface of the cell: faces with four crossings join outside vertices only.
func regions(kind int) [8]int {
	region := [8]int{0, 1, 2, 3, 4, 5, 6, 7}
	isJoined := func(i, j int) bool {
		apart := bits.OnesCount(uint(i ^ j))
		return kind>>i&1 == kind>>j&1 && (apart == 1 || apart == 2 && kind>>i&1 == 0)
	}
	for range 8 {
		for i := range 8 {
			for j := range 8 {
				if isJoined(i, j) {
					region[i] = min(region[i], region[j])
				}
			}
		}
	}
	return region
}

// regionLengths returns the same as lengths: each cycle is the border between two
// regions, and no two cycles divide the same ones.
func regionLengths(kind int) []int {
	region, borders := regions(kind), map[[2]int]int{}
	for i := range 8 {
		for axis := range 3 {
			if j := i ^ 1<<axis; kind>>i&1 == 1 && kind>>j&1 == 0 {
				borders[[2]int{region[i], region[j]}]++
			}
		}
	}
	return slices.Sorted(maps.Values(borders))
}

// kinds calls the function with the 256 fields of level 2 or 3 that have vertices of
// one cell only.
func kinds(level int, cell vertex, call func(kind int, f api.Field)) {
	for kind := range 256 {
		call(kind, fieldOfVertices(level, kindVertices(kind, cell)...))
	}
}

// P8.1: cells in which the vertices are inside in all ways, at several places.
func TestP8_1Kinds(t *testing.T) {
	for _, c := range []struct {
		level int
		cell  vertex
	}{{2, vertex{1, 1, 1}}, {2, vertex{2, 1, 2}}, {3, vertex{6, 3, 1}}, {3, vertex{1, 6, 6}}} {
		kinds(c.level, c.cell, func(kind int, f api.Field) { check(t, f, refContour(f)) })
	}
}

// P8.1: the cycles of all cells, by their numbers of crossings. There are none with more
// than 7.
func TestP8_1KindsOfCycles(t *testing.T) {
	numbers := map[string]int{}
	kinds(2, vertex{1, 1, 1}, func(kind int, f api.Field) {
		l := trianglesIn(contour.Contour(f), 2, vertex{1, 1, 1})
		got := lengths(l, 2)
		if want := regionLengths(kind); !slices.Equal(got, want) {
			t.Errorf("cell %08b: cycles of %v crossings, want %v", kind, got, want)
		}
		numbers[fmt.Sprint(got)]++
	})
	want := map[string]int{
		"[]": 2, "[3]": 16, "[4]": 30, "[5]": 48, "[6]": 44, "[7]": 24,
		"[3 3]": 20, "[3 4]": 24, "[3 5]": 24, "[3 6]": 8, "[4 4]": 6, "[3 3 3]": 8, "[3 3 3 3]": 2,
	}
	if !maps.Equal(numbers, want) {
		t.Errorf("cells with cycles of so many crossings: %v, want %v", numbers, want)
	}
}

// P8.1: other vertices do not change the triangles in a cell.
func TestP8_1KindsWithOthers(t *testing.T) {
	g := generator(811)
	for kind := range 256 {
		cell := vertex{1 + g.below(6), 1 + g.below(6), 1 + g.below(6)}
		alone := fieldOfVertices(3, kindVertices(kind, cell)...)
		want := trianglesIn(contour.Contour(alone), 3, cell)
		for range 3 {
			f := g.field(3)
			for _, v := range vertices(0, 1) {
				f.In[indexOf(3, cell.add(v))] = isInside(alone, cell.add(v))
			}
			got := trianglesIn(contour.Contour(f), 3, cell)
			if !slices.Equal(got, want) {
				t.Fatalf("cell %08b at %v: %v alone; with others %v", kind, cell, want, got)
			}
		}
	}
}

// P8.1: the same cell at all levels. Levels from 3 on have cells at any distance from
// the border.
func TestP8_1KindsAtLevels(t *testing.T) {
	for _, level := range []int{3, 4, 5} {
		for kind := 1; kind < 256; kind += 2 + level {
			cell := vertex{2, cells(level) - 3, 3}
			f := fieldOfVertices(level, kindVertices(kind, cell)...)
			check(t, f, refContour(f))
		}
	}
}

// P8.1, P8.3: on a face with four crossings, those are joined that have a common inside
// vertex, in both cells of the face, in opposite directions; for the six faces of a
// cell, both diagonals, and all ways in which its other vertices can be inside.
func TestP8_1FourCrossings(t *testing.T) {
	cell, ways := vertex{1, 1, 1}, map[[3]int]int{}
	kinds(2, cell, func(kind int, f api.Field) {
		l := directedEdges(contour.Contour(f))
		for axis := range 3 {
			for bit := range 2 {
				diagonal, found := diagonalOf(f, cell.plus(axis, bit), axis)
				if !found {
					continue
				}
				ways[[3]int{axis, bit, diagonal}]++
				checkFourCrossings(t, f, cell.plus(axis, bit), axis, l)
			}
		}
	})
	for axis := range 3 {
		for bit := range 2 {
			if ways[[3]int{axis, bit, 0}] != 16 || ways[[3]int{axis, bit, 1}] != 16 {
				t.Errorf("faces with four crossings: %v", ways)
			}
		}
	}
}

// diagonalOf returns whether the least (0) or the next vertices (1) of the face at v are
// inside, if it has four crossings.
func diagonalOf(f api.Field, v vertex, axis int) (int, bool) {
	u, w := (axis+1)%3, (axis+2)%3
	a, b, c, d := isInside(f, v), isInside(f, v.plus(u, 1)), isInside(f, v.plus(u, 1).plus(w, 1)), isInside(f, v.plus(w, 1))
	if a != c || b != d || a == b {
		return 0, false
	}
	if a {
		return 0, true
	}
	return 1, true
}

func directedEdges(l []api.Tri) map[[2]api.Point]int {
	all := map[[2]api.Point]int{}
	for _, t := range l {
		for i := range t {
			all[[2]api.Point{t[i], t[(i+1)%3]}]++
		}
	}
	return all
}

// checkFourCrossings checks the directed edges of a surface on the face at v.
func checkFourCrossings(t *testing.T, f api.Field, v vertex, axis int, edges map[[2]api.Point]int) {
	t.Helper()
	u, w := (axis+1)%3, (axis+2)%3
	// The crossings on the way around the face, each behind a vertex.
	around := []vertex{v, v.plus(u, 1), v.plus(u, 1).plus(w, 1), v.plus(w, 1)}
	crossings := []api.Point{crossing(f.Level, v, u), crossing(f.Level, v.plus(u, 1), w), crossing(f.Level, v.plus(w, 1), u), crossing(f.Level, v, w)}
	for i, p := range crossings {
		for j, q := range crossings {
			want := 0
			if j == (i+1)%4 && isInside(f, around[j]) || i == (j+1)%4 && isInside(f, around[i]) {
				want = 1
			}
			if edges[[2]api.Point{p, q}] != want {
				t.Fatalf("Contour of %s: %d edges from %v to %v; want %d", briefField(f), edges[[2]api.Point{p, q}], p, q, want)
			}
		}
	}
}

// P8.1: a diagonal of a face, alone in both cells of the face, and its contrary: the
// inside vertices are apart, the outside ones are not.
func TestP8_1Diagonals(t *testing.T) {
	for axis := range 3 {
		u, w := (axis+1)%3, (axis+2)%3
		for bit := range 2 {
			a := vertex{2, 2, 2}.plus(axis, bit)
			for _, pair := range [][2]vertex{{a, a.plus(u, 1).plus(w, 1)}, {a.plus(u, 1), a.plus(w, 1)}} {
				check(t, fieldOfVertices(3, pair[:]...), append(octahedron(3, pair[0]), octahedron(3, pair[1])...))
				hollow := fieldOf(3, func(v vertex) bool { return !slices.Contains(pair[:], v) })
				l := contour.Contour(hollow)
				if parts := mesh.Parts(l); len(parts) != 2 || mesh.Euler(l) != 4 {
					t.Errorf("Contour with a hollow %v: %d parts, Euler %d", pair, len(parts), mesh.Euler(l))
				}
				check(t, hollow, refContour(hollow))
			}
		}
	}
}

// P8.1, P8.3: two cycles of four or more crossings are those around two opposite
// edges; their centres differ, at all levels.
func TestP8_3TwoCentres(t *testing.T) {
	for _, level := range []int{2, 3, 5} {
		cell, found := vertex{1, 2, 1}, 0
		kinds(level, cell, func(kind int, f api.Field) {
			centres := map[api.Point]bool{}
			for _, tri := range trianglesIn(contour.Contour(f), level, cell) {
				for _, p := range tri {
					if isCentre(p, level) {
						centres[p] = true
					}
				}
			}
			add(&found, len(centres) > 1)
			if len(centres) > 2 || len(centres) == 2 && !isOppositePair(kind) {
				t.Errorf("cell %08b: %d centres", kind, len(centres))
			}
			if isOppositePair(kind) && len(centres) != 2 {
				t.Errorf("cell %08b with two opposite edges: %d centres", kind, len(centres))
			}
		})
		if found != 6 {
			t.Errorf("level %d: %d cells with two centres", level, found)
		}
	}
}

// isOppositePair reports whether the inside vertices are the ends of two opposite edges.
func isOppositePair(kind int) bool {
	return slices.Contains([]int{0b11000011, 0b00111100, 0b10100101, 0b01011010, 0b10011001, 0b01100110}, kind)
}
