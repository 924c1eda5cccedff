package mesh

import (
	"lithophane/api"
	"lithophane/wide"
)

// Volume6 returns six times the volume that l encloses, if it is closed: the sum
// of the determinants of the triangles.
func Volume6(l []api.Tri) api.Wide {
	var sum api.Wide
	for _, t := range l {
		sum = wide.Add(sum, determinant(t[0], t[1], t[2]))
	}
	return sum
}

// determinant returns that of the vectors a, b and c.
func determinant(a, b, c api.Point) api.Wide {
	x := wide.Mul(wide.From(a.X), minor(b.Y, b.Z, c.Y, c.Z))
	y := wide.Mul(wide.From(a.Y), minor(b.Z, b.X, c.Z, c.X))
	z := wide.Mul(wide.From(a.Z), minor(b.X, b.Y, c.X, c.Y))
	return wide.Add(wide.Add(x, y), z)
}

// minor returns the determinant of the rows p, q and r, s.
func minor(p, q, r, s int) api.Wide {
	return wide.Sub(wide.Mul(wide.From(p), wide.From(s)), wide.Mul(wide.From(q), wide.From(r)))
}
