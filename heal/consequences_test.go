package heal_test

import (
	"slices"
	"testing"

	"lithophane/api"
	"lithophane/heal"
)

// sameCorners reports whether two triangles have the same three corners, in any order.
func sameCorners(s, t api.Tri) bool { return sameCycle(s, t) || sameCycle(s, turned(t)) }

// P5.4: no kept triangle is flat, and no two have the same three corners.
func TestP5_4Kept(t *testing.T) {
	forLists(func(l []api.Poly) {
		kept, _ := heal.Heal(l)
		for i, s := range kept {
			if refFlat(s) {
				t.Fatalf("Heal of %s: %s is flat", brief(l), triangleText(s))
			}
			if slices.ContainsFunc(kept[:i], func(r api.Tri) bool { return sameCorners(r, s) }) {
				t.Fatalf("Heal of %s: %s is there already", brief(l), triangleText(s))
			}
		}
	})
}

// P5.4: there are at least as many kept triangles and faults as polygons.
func TestP5_4Numbers(t *testing.T) {
	forLists(func(l []api.Poly) {
		kept, faults := heal.Heal(l)
		if len(kept)+len(faults) < len(l) {
			t.Fatalf("Heal of %s: %d triangles, %d faults", brief(l), len(kept), len(faults))
		}
	})
}

// P5.4: triangles that are the only ones with their corners, and not flat, are kept.
func TestP5_4OnlyOnes(t *testing.T) {
	only := 0
	forLists(func(l []api.Poly) {
		kept, _ := heal.Heal(l)
		var all []api.Tri
		for _, p := range l {
			all = append(all, refFan(p.Corners)...)
		}
		for i, s := range all {
			same := func(r api.Tri) bool { return sameCorners(r, s) }
			if refFlat(s) || slices.ContainsFunc(all[:i], same) || slices.ContainsFunc(all[i+1:], same) {
				continue
			}
			only++
			if !slices.Contains(kept, s) {
				t.Fatalf("Heal of %s: without %s", brief(l), triangleText(s))
			}
		}
	})
	if only < 5000 {
		t.Errorf("only ones: %d", only)
	}
}

// P5.4: healing kept triangles again changes nothing, and has no faults.
func TestP5_4Again(t *testing.T) {
	forLists(func(l []api.Poly) {
		kept, _ := heal.Heal(l)
		checkResults(t, each(kept), kept, nil)
	})
}

// P5.4: thousands of triangles, each of which comes twice more, and turned, far behind it.
func TestP5_4ManyPolygons(t *testing.T) {
	const n = 20000
	var triangles, all []api.Tri
	for i := range n {
		triangles = append(triangles, api.Tri{at(i%100, i/100, 0), at(i%100+1, i/100, i%7), at(i%100, i/100+1, -i%5)})
	}
	var faults []api.Fault
	for round, kind := range []api.Errno{api.OK, api.ErrTwice, api.ErrTurned, api.ErrTwice} {
		for i, s := range triangles {
			all = append(all, []api.Tri{s, rotated(s), turned(rotated(s)), rotated(rotated(s))}[round])
			if kind != api.OK {
				faults = append(faults, api.Fault{Place: round*n + i, Kind: kind})
			}
		}
	}
	checkResults(t, each(all), triangles, faults)
}

// P5.4: polygons with thousands of corners.
func TestP5_4ManyCorners(t *testing.T) {
	const n = 20000
	var parabola, runs, line []api.Point
	var fan []api.Tri
	for i := range n {
		corner := at(i, i*i, 3)
		parabola = append(parabola, corner)
		for range 1 + i%4 {
			runs = append(runs, corner)
		}
		line = append(line, at(i, 2*i, -i))
		if i >= 2 {
			fan = append(fan, api.Tri{parabola[0], parabola[i-1], corner})
		}
	}
	backwards := slices.Clone(parabola)
	slices.Reverse(backwards[1:])
	equal := slices.Repeat(parabola[:1], n)
	var faults []api.Fault
	add := func(count, place int, kind api.Errno) {
		faults = append(faults, slices.Repeat([]api.Fault{{Place: place, Kind: kind}}, count)...)
	}
	add(n-2, 4, api.ErrTwice)
	add(n-2, 3, api.ErrTurned)
	add(n-2, 2, api.ErrFlat)
	add(1, 1, api.ErrFlat)
	l := []api.Poly{{Corners: append(runs, equal...), Place: 5}, {Corners: parabola, Place: 4}, {Corners: backwards, Place: 3}, {Corners: line, Place: 2}, {Corners: equal, Place: 1}}
	checkResults(t, l, fan, faults)
}
