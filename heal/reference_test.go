package heal_test

import (
	"math/big"
	"slices"

	"lithophane/api"
)

// The reference says what the document says, word by word, at any cost: it knows
// neither maps nor package exact.

func refCleaned(corners []api.Point) []api.Point {
	var clean []api.Point
	for i, corner := range corners {
		if i == 0 || corner != corners[i-1] {
			clean = append(clean, corner)
		}
	}
	for len(clean) >= 2 && clean[len(clean)-1] == clean[0] {
		clean = clean[:len(clean)-1]
	}
	return clean
}

func refFan(corners []api.Point) []api.Tri {
	clean := refCleaned(corners)
	var fan []api.Tri
	for k := 1; k+1 < len(clean); k++ {
		fan = append(fan, api.Tri{clean[0], clean[k], clean[k+1]})
	}
	return fan
}

// refFlat reports whether the areas of t are 0 as seen along all axes.
func refFlat(t api.Tri) bool {
	return refArea(t, 0, 1).Sign() == 0 && refArea(t, 1, 2).Sign() == 0 && refArea(t, 2, 0).Sign() == 0
}

// refArea returns twice the area that t has if only two coordinates are seen.
func refArea(t api.Tri, u, w int) *big.Int {
	area := new(big.Int)
	for i := range t {
		p, q := refCoordinates(t[i]), refCoordinates(t[(i+1)%3])
		area.Add(area, new(big.Int).Mul(p[u], q[w]))
		area.Sub(area, new(big.Int).Mul(p[w], q[u]))
	}
	return area
}

func refCoordinates(p api.Point) [3]*big.Int {
	return [3]*big.Int{big.NewInt(int64(p.X)), big.NewInt(int64(p.Y)), big.NewInt(int64(p.Z))}
}

func sameCycle(s, t api.Tri) bool {
	return s == t || s == rotated(t) || s == rotated(rotated(t))
}

// refKind returns the kind of the fault of t, if some triangles were kept before.
func refKind(kept []api.Tri, t api.Tri) api.Errno {
	switch {
	case refFlat(t):
		return api.ErrFlat
	case slices.ContainsFunc(kept, func(s api.Tri) bool { return sameCycle(s, t) }):
		return api.ErrTwice
	case slices.ContainsFunc(kept, func(s api.Tri) bool { return sameCycle(s, turned(t)) }):
		return api.ErrTurned
	}
	return api.OK
}

func refHeal(l []api.Poly) ([]api.Tri, []api.Fault) {
	var kept []api.Tri
	var faults []api.Fault
	for _, p := range l {
		fan := refFan(p.Corners)
		if len(fan) == 0 {
			faults = append(faults, api.Fault{Place: p.Place, Kind: api.ErrFlat})
		}
		for _, t := range fan {
			if kind := refKind(kept, t); kind != api.OK {
				faults = append(faults, api.Fault{Place: p.Place, Kind: kind})
			} else {
				kept = append(kept, t)
			}
		}
	}
	return kept, faults
}
