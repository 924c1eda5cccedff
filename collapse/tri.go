package collapse

import "lithophane/api"

// moved returns t with v in place of u.
func moved(t api.Tri, u, v api.Point) api.Tri {
	for i, p := range t {
		if p == u {
			t[i] = v
		}
	}
	return t
}

func hasCorner(t api.Tri, p api.Point) bool { return t[0] == p || t[1] == p || t[2] == p }

func hasEqualCorners(t api.Tri) bool { return t[0] == t[1] || t[1] == t[2] || t[2] == t[0] }

// edgesOf returns the directed edges of t.
func edgesOf(t api.Tri) [3][2]api.Point {
	return [3][2]api.Point{{t[0], t[1]}, {t[1], t[2]}, {t[2], t[0]}}
}
