package heal_test

import (
	"fmt"
	"math"
	"slices"
	"strconv"
	"strings"
	"testing"

	"lithophane/api"
	"lithophane/heal"
)

// letters are the names of points: a, b, c, d are the corners of a square, e lies
// between a and b, f on the line through a and b beyond b, g and h lie elsewhere.
const letters = "abcdefgh"

func points() []api.Point {
	return []api.Point{at(0, 0, 0), at(2, 0, 0), at(2, 2, 0), at(0, 2, 0), at(1, 0, 0), at(5, 0, 0), at(1, -1, 3), at(-4, 1, 0)}
}

func at(x, y, z int) api.Point { return api.Point{X: x, Y: y, Z: z} }

// named returns the points with the names.
func named(names string) []api.Point {
	var l []api.Point
	for _, name := range names {
		l = append(l, points()[strings.IndexRune(letters, name)])
	}
	return l
}

// polygons reads polygons such as "abcd 1, bca 2": the names of the corners, and the place.
func polygons(text string) []api.Poly {
	var l []api.Poly
	for item := range strings.SplitSeq(text, ", ") {
		names, digits, found := strings.Cut(item, " ")
		place, err := strconv.Atoi(digits)
		if !found || err != nil {
			panic("no polygon: " + item)
		}
		l = append(l, api.Poly{Corners: named(names), Place: place})
	}
	return l
}

// triangleText returns the names of the corners or, for other points, the coordinates.
func triangleText(t api.Tri) string {
	text := ""
	for _, corner := range t {
		if i := slices.Index(points(), corner); i >= 0 {
			text += letters[i : i+1]
		} else {
			text += fmt.Sprint(corner)
		}
	}
	return text
}

func kindText(kind api.Errno) string {
	switch kind {
	case api.ErrFlat:
		return "flat"
	case api.ErrTwice:
		return "twice"
	case api.ErrTurned:
		return "turned"
	}
	return strconv.Itoa(int(kind))
}

// resultText returns results such as "abc acd / 2 twice, 3 turned".
func resultText(triangles []api.Tri, faults []api.Fault) string {
	var first, second []string
	for _, t := range triangles {
		first = append(first, triangleText(t))
	}
	for _, f := range faults {
		second = append(second, strconv.Itoa(f.Place)+" "+kindText(f.Kind))
	}
	return strings.Join(first, " ") + " / " + strings.Join(second, ", ")
}

// heals are calls: polygons, and the results.
type heals [][2]string

func (calls heals) check(t *testing.T) {
	t.Helper()
	for _, call := range calls {
		if got := resultText(heal.Heal(polygons(call[0]))); got != call[1] {
			t.Errorf("Heal of %s: %s; want %s", call[0], got, call[1])
		}
	}
}

// checkResults checks the results for a list.
func checkResults(t *testing.T, l []api.Poly, triangles []api.Tri, faults []api.Fault) {
	t.Helper()
	gotTriangles, gotFaults := heal.Heal(l)
	if !slices.Equal(gotTriangles, triangles) || !slices.Equal(gotFaults, faults) {
		t.Fatalf("Heal of %s: %s; want %s", brief(l), shortened(resultText(gotTriangles, gotFaults)), shortened(resultText(triangles, faults)))
	}
}

func brief(l []api.Poly) string { return shortened(fmt.Sprint(l)) }

func shortened(text string) string { return text[:min(len(text), 2000)] }

// each returns the triangles as polygons, with the places from 0 on.
func each(l []api.Tri) []api.Poly {
	var all []api.Poly
	for i, t := range l {
		all = append(all, api.Poly{Corners: t[:], Place: i})
	}
	return all
}

func rotated(t api.Tri) api.Tri { return api.Tri{t[1], t[2], t[0]} }

func turned(t api.Tri) api.Tri { return api.Tri{t[2], t[1], t[0]} }

// cloned returns the polygons in memory of their own.
func cloned(l []api.Poly) []api.Poly {
	all := slices.Clone(l)
	for i, p := range all {
		all[i].Corners = slices.Clone(p.Corners)
	}
	return all
}

// generator is a sequence of numbers that is the same in every run.
type generator uint64

func (g *generator) below(n int) int {
	*g ^= *g << 13
	*g ^= *g >> 7
	*g ^= *g << 17
	return int(uint64(*g) >> 11 % uint64(n))
}

// spaces are sets of points, of which some are on common lines: the named ones,
// ones at neighbouring places, and ones with the greatest and the least coordinates.
func spaces() [][]api.Point {
	var cube, far []api.Point
	extremes := []int{math.MinInt, math.MinInt + 1, -1, 0, math.MaxInt - 1, math.MaxInt}
	for i := range 27 {
		cube = append(cube, at(i%3, i/3%3, i/9))
		far = append(far, at(extremes[i%3], extremes[5-i/3%3], extremes[i%6]))
	}
	return [][]api.Point{points(), cube[:4], cube, far, far[:5]}
}

// polygon returns a polygon with corners among the points, often with equal ones in a row.
func (g *generator) polygon(space []api.Point) api.Poly {
	p := api.Poly{Place: g.below(5) - 2}
	for range g.below(7) {
		corner := space[g.below(len(space))]
		for range 1 + max(0, g.below(6)-3) {
			p.Corners = append(p.Corners, corner)
		}
	}
	for range max(0, g.below(6)-3) {
		p.Corners = append(p.Corners, p.Corners[:min(1, len(p.Corners))]...)
	}
	return p
}

// list returns polygons, some of which are earlier ones, turned ones, or ones with
// another corner in front.
func (g *generator) list(space []api.Point) []api.Poly {
	var l []api.Poly
	for range g.below(12) {
		p := g.polygon(space)
		if len(l) > 0 && g.below(3) == 0 {
			p.Corners = slices.Clone(l[g.below(len(l))].Corners)
			if g.below(2) == 0 {
				slices.Reverse(p.Corners)
			}
			front := g.below(len(p.Corners) + 1)
			p.Corners = slices.Concat(p.Corners[front:], p.Corners[:front])
		}
		l = append(l, p)
	}
	return l
}

// forLists calls check with many lists in all spaces.
func forLists(check func(l []api.Poly)) {
	g := generator(5)
	for _, space := range spaces() {
		for range 800 {
			check(g.list(space))
		}
	}
}
