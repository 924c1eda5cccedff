package collapse_test

import (
	"slices"
	"testing"

	"lithophane/api"
	"lithophane/collapse"
	"lithophane/mesh"
)

// P11.3, P11.4: surfaces with thousands of triangles; to the end, or to a part of them.
func TestLargeSurfaces(t *testing.T) {
	g := generator(71)
	for _, x := range []struct {
		l    []api.Tri
		want int
	}{
		{torus(80, 50, 1000000, 400000), 0}, {torus(200, 90, 1000000, 400000), 18000}, {ball(30, 100000), 100}, {g.shaken(flatHill(60), 4), 0},
		{hill(60, func(i, j int) int { return i*i + 3*i*j - j*j*j/20 }), 1000}, {flatHill(40), 0}, {bipyramid(300, 100000, 90000), 4},
		{append(ball(20, 100000), turned(ball(20, 99000))...), 300},
	} {
		l := g.shuffled(x.l)
		after, moves := collapse.Simplify(l, x.want)
		if mesh.CheckOpen(after) != api.OK || !slices.Equal(mesh.Border(after), mesh.Border(l)) || mesh.Euler(after) != mesh.Euler(l) {
			t.Errorf("%d triangles become %d: another surface", len(l), len(after))
		}
		if len(after) != len(l)-2*len(moves) || len(after) < x.want-1 {
			t.Errorf("%d triangles become %d, %d moves; %d wanted", len(l), len(after), len(moves), x.want)
		}
		if len(after) < 400 {
			checkEnd(t, after, x.want)
		}
	}
}

// P11.2: collapses in a surface with thousands of triangles.
func TestLargeAllowed(t *testing.T) {
	l := torus(80, 50, 1000000, 400000)
	r := refListOf(l)
	for k := 0; k < len(l); k += 997 {
		for i, u := range l[k] {
			v := l[k][(i+1)%3]
			checkAllowed(t, l, u, v, r.allowed(u, v))
		}
	}
}

// P11.2: a triangle that is met is found wherever it is: in a line of many.
func TestLargeFar(t *testing.T) {
	for _, count := range []int{1, 2, 3, 7, 8, 9, 64, 65, 500} {
		for _, k := range []int{0, count / 2, count - 1} {
			l := tent()
			for i := range count {
				l = append(l, shifted(tris(at(3, 0, -5), at(4, 1, -5), at(3, 1, 5)), at(9000+7*i, 40*(i%5), 3*i))...)
			}
			checkAllowed(t, l, at(0, 0, 10), at(-10, 0, 0), true)
			l[len(tent())+k] = api.Tri{at(3, 0, -5), at(4, 1, -5), at(3, 1, 5)}
			checkAllowed(t, l, at(0, 0, 10), at(-10, 0, 0), false)
		}
	}
}

// P11.2: a triangle that is met is found among others that are scattered far around it,
// whether these are few or many.
func TestP11_2Scattered(t *testing.T) {
	g := generator(72)
	u, ring := at(0, 0, 4), []api.Point{at(-10, 0, 0), at(5, -9, 0), at(5, 9, 0)}
	met := tris(at(0, 0, -5), at(1, 1, -5), at(0, 1, 1))
	for range 3000 {
		l := wheel(u, ring...)
		for range g.below(30) {
			by := at(g.between(5000), g.between(5000), g.between(5000))
			if max(by.X, -by.X, by.Y, -by.Y, by.Z, -by.Z) > 100 {
				l = append(l, shifted(met, by)...)
			}
		}
		if mesh.CheckOpen(l) != api.OK {
			continue
		}
		checkAllowed(t, g.shuffled(l), u, ring[0], true)
		checkAllowed(t, g.shuffled(append(l, met...)), u, ring[0], false)
	}
}
