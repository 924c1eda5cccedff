package heal

import (
	"lithophane/api"
	"lithophane/exact"
)

// directions tells for the corners of each triangle that was kept, in ascending
// order, whether they ascend in its cyclic order, too.
type directions map[api.Tri]bool

// keep returns the kind of the fault of t; if there is none, t is kept.
func (kept directions) keep(t api.Tri) api.Errno {
	if exact.Flat(t) {
		return api.ErrFlat
	}
	corners, ascends := ascending(t)
	before, found := kept[corners]
	switch {
	case !found:
		kept[corners] = ascends
		return api.OK
	case before == ascends:
		return api.ErrTwice
	}
	return api.ErrTurned
}

// ascending returns t with its corners in ascending order, and whether they have
// this cyclic order in t, too.
func ascending(t api.Tri) (api.Tri, bool) {
	sameCycle := true
	order := func(i, j int) {
		if exact.Less(t[j], t[i]) {
			t[i], t[j] = t[j], t[i]
			sameCycle = !sameCycle
		}
	}
	order(0, 1)
	order(1, 2)
	order(0, 1)
	return t, sameCycle
}
