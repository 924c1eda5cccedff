package wide

import "lithophane/api"

// Frac returns n/d in lowest terms; false, if d is 0.
func Frac(n, d api.Wide) (api.Frac, bool) {
	divisor := Gcd(n, d)
	switch Sign(d) {
	case 0:
		return api.Frac{}, false
	case -1:
		divisor = Neg(divisor) // turns the denominator positive
	}
	n, _, _ = Quo(n, divisor)
	d, _, _ = Quo(d, divisor)
	return api.Frac{N: n, D: d}, true
}

// terms returns a numerator and a positive denominator of the value of a.
func terms(a api.Frac) (n, d api.Wide) {
	if Sign(a.D) <= 0 {
		return api.Wide{}, From(1)
	}
	return a.N, a.D
}

// CmpFrac returns the sign of a - b.
func CmpFrac(a, b api.Frac) int {
	an, ad := terms(a)
	bn, bd := terms(b)
	return Cmp(Mul(an, bd), Mul(bn, ad))
}

// AddFrac returns a + b.
func AddFrac(a, b api.Frac) api.Frac {
	an, ad := terms(a)
	bn, bd := terms(b)
	sum, _ := Frac(Add(Mul(an, bd), Mul(bn, ad)), Mul(ad, bd))
	return sum
}

// MulFrac returns a b.
func MulFrac(a, b api.Frac) api.Frac {
	an, ad := terms(a)
	bn, bd := terms(b)
	product, _ := Frac(Mul(an, bn), Mul(ad, bd))
	return product
}
