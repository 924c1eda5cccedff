package subdivide

import (
	"slices"

	"lithophane/api"
)

func plus(p, q api.Point) api.Point { return api.Point{X: p.X + q.X, Y: p.Y + q.Y, Z: p.Z + q.Z} }

func minus(p, q api.Point) api.Point { return api.Point{X: p.X - q.X, Y: p.Y - q.Y, Z: p.Z - q.Z} }

func times(p api.Point, n int) api.Point { return api.Point{X: p.X * n, Y: p.Y * n, Z: p.Z * n} }

func over(p api.Point, n int) api.Point { return api.Point{X: p.X / n, Y: p.Y / n, Z: p.Z / n} }

// areMultiples reports whether all coordinates are multiples of n.
func areMultiples(points []api.Point, n int) bool {
	isNone := func(p api.Point) bool { return times(over(p, n), n) != p }
	return !slices.ContainsFunc(points, isNone)
}

// areWithin reports whether all coordinates are from least to most.
func areWithin(points []api.Point, least, most int) bool {
	isOutside := func(p api.Point) bool { return min(p.X, p.Y, p.Z) < least || max(p.X, p.Y, p.Z) > most }
	return !slices.ContainsFunc(points, isOutside)
}
