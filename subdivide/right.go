package subdivide

import (
	"slices"

	"lithophane/api"
	"lithophane/mesh"
)

// refinementOf returns the refinement of c, or the error of c.
func refinementOf(c api.Control) (refinement, api.Errno) {
	if err := errorOfShape(c); err != api.OK {
		return refinement{}, err
	}
	r := refine(shapeOf(c), c.Steps)
	switch {
	case r.hasTooMany(c.Details):
		return refinement{}, api.ErrMany
	case !hasPointsInRange(c) || !hasDetailsInRange(c):
		return refinement{}, api.ErrRange
	}
	return r, api.OK
}

// errorOfShape returns the first error of c that shows before it is refined, and that
// does not depend on coordinates.
func errorOfShape(c api.Control) api.Errno {
	switch {
	case c.Steps < 0 || c.Steps > api.MaxSteps || len(c.Details) > c.Steps:
		return api.ErrArg
	case !hasNumbersOfPoints(c):
		return api.ErrIndex
	}
	apart := placed(c.Tris, func(number int) api.Point { return api.Point{X: number} })
	if err := mesh.Check(apart); err != api.OK {
		return err
	}
	switch {
	case !areJoined(c.Creases, c.Tris):
		return api.ErrForm
	case len(c.Tris) > api.MaxTris>>(2*c.Steps):
		return api.ErrMany
	}
	return api.OK
}

// hasNumbersOfPoints reports whether all numbers in c are those of points.
func hasNumbersOfPoints(c api.Control) bool {
	isNone := func(number int) bool { return number < 0 || number >= len(c.Points) }
	for _, t := range c.Tris {
		if slices.ContainsFunc(t[:], isNone) {
			return false
		}
	}
	for _, crease := range c.Creases {
		if slices.ContainsFunc(crease[:], isNone) {
			return false
		}
	}
	return !slices.ContainsFunc(c.Corners, isNone)
}

// areJoined reports whether each of the creases is an edge of a triangle.
func areJoined(creases [][2]int, tris [][3]int) bool {
	joined := map[edge]bool{}
	for _, t := range tris {
		for _, e := range edgesOf(t) {
			joined[e.ascending()] = true
		}
	}
	isNone := func(crease [2]int) bool { return !joined[creaseOf(crease)] }
	return !slices.ContainsFunc(creases, isNone)
}

func hasPointsInRange(c api.Control) bool {
	return areWithin(c.Points, 0, api.MaxCoord/power16(c.Steps))
}

func hasDetailsInRange(c api.Control) bool {
	isOutside := func(list []api.Point) bool { return !areWithin(list, -api.MaxCoord, api.MaxCoord) }
	return !slices.ContainsFunc(c.Details, isOutside)
}

// placed returns the triangles with the places of their corners.
func placed(tris [][3]int, place func(number int) api.Point) []api.Tri {
	l := make([]api.Tri, len(tris))
	for i, t := range tris {
		l[i] = api.Tri{place(t[0]), place(t[1]), place(t[2])}
	}
	return l
}
