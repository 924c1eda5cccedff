package quadric

import (
	"lithophane/api"
	"lithophane/exact"
	"lithophane/wide"
)

// linear is the function of a point with these factors of x, y, z and 1.
type linear [4]api.Wide

// factors are, for each coefficient of a quadric, the numbers of the two among x, y, z
// and 1 that it is multiplied by.
var factors = [10][2]int{{0, 0}, {0, 1}, {0, 2}, {0, 3}, {1, 1}, {1, 2}, {1, 3}, {2, 2}, {2, 3}, {3, 3}}

// planeOf returns the function that is 0 in the plane of t, with the normal of t.
func planeOf(t api.Tri) linear {
	normal := exact.Normal(t)
	f := linear{normal[0], normal[1], normal[2]}
	f[3] = wide.Neg(f.at(coordinatesOf(t[0])))
	return f
}

// coordinates are those of a point.
type coordinates [3]api.Wide

func coordinatesOf(p api.Point) coordinates {
	return coordinates{wide.From(p.X), wide.From(p.Y), wide.From(p.Z)}
}

// at returns the value of f at the point with these coordinates.
func (f linear) at(place coordinates) api.Wide {
	value := f[3]
	for i, coordinate := range place {
		value = wide.Add(value, wide.Mul(f[i], coordinate))
	}
	return value
}
