package subdivide_test

import (
	"slices"
	"testing"

	"lithophane/api"
	"lithophane/mesh"
	"lithophane/subdivide"
)

// P9.4: a point keeps its place, times 16^Steps; so do new points, in later steps.
func TestP9_4Places(t *testing.T) {
	forControls(941, 400, func(g *generator, c api.Control) {
		points := fineOf(t, c)
		for i, p := range c.Points {
			u := power(c.Steps)
			if points[i] != at(p.X*u, p.Y*u, p.Z*u) {
				t.Fatalf("Fine of %s: point %d is at %v", brief(c), i, points[i])
			}
		}
		if c.Steps == 0 || !slices.Equal(c.Points, pointsWithin(c, c.Steps-1)) {
			return
		}
		// With one step less, all coordinates are a sixteenth.
		less := cloned(c)
		less.Steps--
		less.Details = less.Details[:min(len(less.Details), less.Steps)]
		for i, p := range fineOf(t, less) {
			if points[i] != at(16*p.X, 16*p.Y, 16*p.Z) {
				t.Fatalf("Fine of %s: point %d is at %v, and at %v without the last step", brief(c), i, points[i], p)
			}
		}
	})
}

// pointsWithin returns the points that are in the range of so many steps.
func pointsWithin(c api.Control, steps int) []api.Point {
	return slices.DeleteFunc(slices.Clone(c.Points), func(p api.Point) bool { return max(p.X, p.Y, p.Z) > greatest(steps) })
}

// P9.4: the number of the triangles is T 4^Steps; they are closed, with the parts and the
// Euler number of the control mesh. Two triangles with the same corners are an exception.
func TestP9_4Triangles(t *testing.T) {
	closed := 0
	forControls(942, 400, func(g *generator, c api.Control) {
		points, tris, err := subdivide.Fine(c)
		if err != api.OK || len(tris) != len(c.Tris)<<(2*c.Steps) {
			t.Fatalf("Fine of %s: %v, %d triangles", brief(c), err, len(tris))
		}
		if hasPillow(c) && c.Steps > 0 {
			return
		}
		if added := len(c.Tris) * (1<<(2*c.Steps) - 1) / 2; len(points) != len(c.Points)+added {
			t.Fatalf("Fine of %s: %d points", brief(c), len(points))
		}
		coarse, fine := refLine(c.Tris), refLine(tris)
		if mesh.Check(fine) != api.OK || mesh.Euler(fine) != mesh.Euler(coarse) || len(mesh.Parts(fine)) != len(mesh.Parts(coarse)) {
			t.Fatalf("Fine of %s: triangles %s: %v", brief(c), brief(tris), mesh.Check(fine))
		}
		closed++
	})
	if closed < 250 {
		t.Errorf("%d control meshes", closed)
	}
}

// combined returns f times the points and details of c, and those of d, which has the
// same numbers of them.
func combined(f int, c, d api.Control) api.Control {
	c = completed(c)
	add := func(all, others []api.Point) {
		for i, p := range all {
			q := others[i]
			all[i] = at(f*p.X+q.X, f*p.Y+q.Y, f*p.Z+q.Z)
		}
	}
	add(c.Points, d.Points)
	for k, list := range c.Details {
		add(list, completed(d).Details[k])
	}
	return c
}

// P9.4: Fine is linear in points and details together.
func TestP9_4Linear(t *testing.T) {
	compared := 0
	forControls(943, 600, func(g *generator, c api.Control) {
		d := cloned(c)
		d.Details = nil
		g.addDetails(&d)
		for i, p := range d.Points {
			d.Points[i] = at(p.Y/2, g.between(0, 2), max(p.X, p.Z)/3)
		}
		f := g.between(-2, 2)
		sum := combined(f, c, d)
		if refError(sum) != api.OK {
			return
		}
		compared++
		first, second, both := fineOf(t, c), fineOf(t, d), fineOf(t, sum)
		for i, p := range first {
			q := second[i]
			if want := at(f*p.X+q.X, f*p.Y+q.Y, f*p.Z+q.Z); both[i] != want {
				t.Fatalf("Fine of %s: point %d is at %v, want %v", brief(sum), i, both[i], want)
			}
		}
	})
	if compared < 150 {
		t.Errorf("%d control meshes", compared)
	}
}

// P9.4: if all points are moved by the same vector, all points of Fine are; and if the
// coordinates of all points and details are exchanged, those of Fine are.
func TestP9_4Moved(t *testing.T) {
	forControls(944, 300, func(g *generator, c api.Control) {
		moved, exchanged := cloned(c), cloned(c)
		for i, p := range c.Points {
			moved.Points[i] = at(p.X/2+1, p.Y/2, p.Z/2+greatest(c.Steps)/2)
			c.Points[i] = at(p.X/2, p.Y/2, p.Z/2)
			exchanged.Points[i] = at(p.Z/2, p.X/2, p.Y/2)
		}
		for k, list := range c.Details {
			for i, p := range list {
				exchanged.Details[k][i] = at(p.Z, p.X, p.Y)
			}
		}
		points, movedPoints, exchangedPoints := fineOf(t, c), fineOf(t, moved), fineOf(t, exchanged)
		u := power(c.Steps)
		for i, p := range points {
			if want := at(p.X+u, p.Y, p.Z+greatest(c.Steps)/2*u); movedPoints[i] != want {
				t.Fatalf("Fine of %s: point %d is at %v, want %v", brief(moved), i, movedPoints[i], want)
			}
			if want := at(p.Z, p.X, p.Y); exchangedPoints[i] != want {
				t.Fatalf("Fine of %s: point %d is at %v, want %v", brief(exchanged), i, exchangedPoints[i], want)
			}
		}
	})
}

// onCreases reports for all points of Fine whether they lie on creases.
func onCreases(c api.Control) []bool {
	m := refMesh{points: make([]refPoint, len(c.Points)), tris: c.Tris, creases: c.Creases}
	for range c.Steps {
		m = m.finer(make([]refPoint, len(joined(m.tris))))
	}
	isOn := make([]bool, len(m.points))
	for _, crease := range m.creases {
		isOn[crease[0]], isOn[crease[1]] = true, true
	}
	return isOn
}

// P9.4: new points of creases depend on points of creases only.
func TestP9_4Creases(t *testing.T) {
	compared := 0
	forControls(945, 400, func(g *generator, c api.Control) {
		isOn := onCreases(c)
		other := completed(c)
		for i := range other.Points {
			if !isOn[i] {
				other.Points[i] = g.point(0, greatest(c.Steps))
			}
		}
		number := len(c.Points)
		for _, list := range other.Details {
			for i := range list {
				if !isOn[number] {
					list[i] = g.point(-2097151, 2097151)
				}
				number++
			}
		}
		first, second := fineOf(t, c), fineOf(t, other)
		for i := range first {
			if isOn[i] && first[i] != second[i] {
				t.Fatalf("Fine of %s: point %d of a crease is at %v, and at %v if other points are moved", brief(c), i, first[i], second[i])
			}
			if isOn[i] && i >= len(c.Points) {
				compared++
			}
		}
	})
	if compared < 3000 {
		t.Errorf("%d new points of creases", compared)
	}
}

// P9.4: n + 1 steps have the points and the triangles of one step of what n steps made.
func TestP9_4StepByStep(t *testing.T) {
	compared := map[int]int{}
	forControls(946, 700, func(g *generator, c api.Control) {
		c.Details = nil
		c.Steps = 1 + g.below(4)
		for len(c.Tris)<<(2*c.Steps) > 2000 {
			c.Steps--
		}
		if c.Steps < 2 || hasPillow(c) {
			return
		}
		most := greatest(c.Steps)
		for i := range c.Points {
			c.Points[i] = g.point(most/3, most-most/3)
		}
		before := cloned(c)
		before.Steps--
		points, tris, err := subdivide.Fine(before)
		if err != api.OK {
			t.Fatalf("Fine of %s: %v", brief(before), err)
		}
		next := api.Control{Points: points, Tris: tris, Creases: refFine(before).creases, Corners: c.Corners, Steps: 1}
		if refError(next) != api.OK {
			return
		}
		compared[c.Steps]++
		wantPoints, wantTris, _ := subdivide.Fine(c)
		checkFine(t, next, wantPoints, wantTris, api.OK)
	})
	if min(compared[2], compared[3], compared[4]) < 20 {
		t.Errorf("control meshes: %v", compared)
	}
}

// P9.4: if points get other numbers, and triangles another order, the surface stays, and
// the details of the first step stay with their edges.
func TestP9_4OtherNumbers(t *testing.T) {
	compared := 0
	forControls(947, 500, func(g *generator, c api.Control) {
		if hasPillow(c) {
			return
		}
		c.Details = c.Details[:min(len(c.Details), 1)]
		want, wantErr := subdivide.Subdivide(c)
		got, err := subdivide.Subdivide(g.renumbered(c))
		if err != wantErr || !slices.Equal(got, want) {
			t.Fatalf("Subdivide of %s: %s; with other numbers %s", brief(c), brief(wantErr, want), brief(err, got))
		}
		if err == api.OK {
			compared++
		}
	})
	if compared < 150 {
		t.Errorf("%d surfaces", compared)
	}
}

// renumbered returns c with other numbers of its points, and with its triangles in another
// order; it has at most one list of details.
func (g *generator) renumbered(c api.Control) api.Control {
	numbers := make([]int, len(c.Points))
	for i := range numbers {
		numbers[i] = i
	}
	shuffle(g, numbers)
	d := cloned(c)
	for i, p := range c.Points {
		d.Points[numbers[i]] = p
	}
	for i, tri := range c.Tris {
		first := g.below(3)
		d.Tris[i] = [3]int{numbers[tri[first]], numbers[tri[(first+1)%3]], numbers[tri[(first+2)%3]]}
	}
	shuffle(g, d.Tris)
	for i, crease := range c.Creases {
		d.Creases[i] = [2]int{numbers[crease[1]], numbers[crease[0]]}
	}
	for i, corner := range c.Corners {
		d.Corners[i] = numbers[corner]
	}
	if len(c.Details) == 1 {
		pairs, others := joined(c.Tris), joined(d.Tris)
		d.Details = [][]api.Point{make([]api.Point, len(others))}
		for i, p := range c.Details[0] {
			a, b := numbers[pairs[i][0]], numbers[pairs[i][1]]
			d.Details[0][refIndex(others, min(a, b), max(a, b))] = p
		}
	}
	return d
}

// P9.4: if all triangles are turned round, all points stay where they are.
func TestP9_4Turned(t *testing.T) {
	forControls(948, 300, func(g *generator, c api.Control) {
		turned := cloned(c)
		for i, tri := range c.Tris {
			turned.Tris[i] = [3]int{tri[1], tri[0], tri[2]}
		}
		if points := fineOf(t, c); !slices.Equal(fineOf(t, turned), points) {
			t.Fatalf("Fine of %s: other points than without turning", brief(turned))
		}
	})
}
