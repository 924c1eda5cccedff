package exact

import (
	"lithophane/api"
	"lithophane/wide"
)

// wideVector is a vector of any length.
type wideVector [3]api.Wide

// wideBetween returns the vector from a to b.
func wideBetween(a, b api.Point) wideVector {
	var v wideVector
	for i, field := range fields() {
		v[i] = wide.Sub(wide.From(field(point(b))), wide.From(field(point(a))))
	}
	return v
}

// wideNormal returns the normal of t.
func wideNormal(t api.Tri) wideVector {
	return wideBetween(t[0], t[1]).cross(wideBetween(t[0], t[2]))
}

// cross returns the vector product.
func (v wideVector) cross(w wideVector) wideVector {
	var product wideVector
	for i := range product {
		j, k := (i+1)%3, (i+2)%3
		product[i] = wide.Sub(wide.Mul(v[j], w[k]), wide.Mul(v[k], w[j]))
	}
	return product
}

// dot returns the scalar product.
func (v wideVector) dot(w wideVector) api.Wide {
	var sum api.Wide
	for i := range v {
		sum = wide.Add(sum, wide.Mul(v[i], w[i]))
	}
	return sum
}
