package subdivide_test

import (
	"math"
	"slices"
	"testing"

	"lithophane/api"
	"lithophane/subdivide"
)

// completed returns c with all elements of all lists of details.
func completed(c api.Control) api.Control {
	c = cloned(c)
	first, tris := len(c.Points), c.Tris
	for k := range c.Steps {
		if k == len(c.Details) {
			c.Details = append(c.Details, nil)
		}
		last, finer := refCut(first, tris)
		c.Details[k] = append(c.Details[k], make([]api.Point, last-first-len(c.Details[k]))...)
		first, tris = last, finer
	}
	return c
}

// without returns c without details, with all points at 0, 0, 0.
func without(c api.Control) api.Control {
	c = cloned(c)
	c.Points, c.Details = make([]api.Point, len(c.Points)), nil
	return c
}

// P9.3: the document's examples lead back to themselves.
func TestP9_3Examples(t *testing.T) {
	plain, creased, details := example(), example(), example()
	creased.Creases = [][2]int{{0, 1}, {1, 2}}
	details.Details = [][]api.Point{{at(1, 2, 3)}}
	for _, c := range []api.Control{plain, creased, details} {
		checkAnalysis(t, without(c), fineOf(t, c), completed(c), api.OK)
	}
	// What one rule makes differs from what the other makes by a detail.
	back := completed(plain)
	back.Details[0] = []api.Point{at(16, -16, 0), {}, {}, at(16, 0, 0), {}, {}}
	checkAnalysis(t, plain, fineOf(t, creased), back, api.OK)
}

// P9.3: what Fine returned leads back to the control mesh, for all numbers of steps; all
// elements of the lists of details come back, also those that were missing.
func TestP9_3Back(t *testing.T) {
	for steps := range 5 {
		for count := range steps + 1 {
			g := generator(931 + 5*steps + count)
			c := octahedron().beside(body{points: 1}).control(steps)
			c.Creases, c.Corners = [][2]int{{0, 2}, {2, 3}, {3, 0}, {5, 0}, {0, 2}}, []int{2, 6, 2}
			for k := range count {
				var list []api.Point
				for range (12 << (2 * k)) - g.below(3) {
					list = append(list, g.point(-2097151, 2097151))
				}
				c.Details = append(c.Details, list)
			}
			got, err := subdivide.Analyse(without(c), fineOf(t, c))
			if err != api.OK || !same(got, completed(c)) || len(got.Details) != steps {
				t.Errorf("Analyse of what Fine of %s returned: %s", brief(c), brief(err, got))
			}
			for k, list := range got.Details {
				if len(list) != 12<<(2*k) {
					t.Errorf("%d steps: list %d has %d elements", steps, k, len(list))
				}
			}
		}
	}
}

// P9.3: what Fine returned for control meshes of many sorts leads back to them.
func TestP9_3BackReference(t *testing.T) {
	forControls(932, 700, func(g *generator, c api.Control) {
		checkAnalysis(t, without(c), fineOf(t, c), completed(c), api.OK)
	})
}

// P9.3: the points and the details of the argument play no part, but for the number of
// points: neither such that are out of range, nor lists that are too many or too long.
func TestP9_3OwnPlaces(t *testing.T) {
	strange := []api.Point{at(math.MinInt, math.MaxInt, -1), at(2097152, 2097151, 1), {}, at(-5, 3, 1<<40)}
	forControls(933, 300, func(g *generator, c api.Control) {
		other := cloned(c)
		for i := range other.Points {
			other.Points[i] = pick(g, strange)
		}
		other.Details = nil
		for range g.below(9) {
			other.Details = append(other.Details, slices.Repeat([]api.Point{pick(g, strange)}, g.below(2000)))
		}
		checkAnalysis(t, other, fineOf(t, c), completed(c), api.OK)
	})
}

// P9.3: creases and corners come back as they are mentioned.
func TestP9_3Mentioned(t *testing.T) {
	c := octahedron().control(2)
	c.Creases, c.Corners = [][2]int{{2, 0}, {0, 2}, {3, 2}, {2, 0}}, []int{4, 0, 4}
	got, err := subdivide.Analyse(c, fineOf(t, c))
	if err != api.OK || !slices.Equal(got.Creases, c.Creases) || !slices.Equal(got.Corners, c.Corners) || !slices.Equal(got.Tris, c.Tris) || got.Steps != 2 {
		t.Errorf("Analyse of %s: %s", brief(c), brief(err, got))
	}
}

// P9.3: all points are multiples of 16^Steps, where fine has just that many of them, and
// the details are differences of what fine has and what the rules make.
func TestP9_3AnyPoints(t *testing.T) {
	forControls(934, 300, func(g *generator, c api.Control) {
		fine := fineOf(t, c)
		for i := range fine {
			p := g.point(0, greatest(c.Steps))
			if i >= len(c.Points) {
				p = g.point(-9, 9)
			}
			u := power(c.Steps)
			fine[i] = at(p.X*u, p.Y*u, p.Z*u)
		}
		found, err := refAnalyse(c, fine)
		checkAnalysis(t, c, fine, found, err)
		if err == api.OK && !slices.Equal(fineOf(t, found), fine) {
			t.Fatalf("Fine of what Analyse returned for %s: not %s", brief(c), brief(fine))
		}
	})
}

// P9.3: the first of the errors is that of the argument, whatever fine is.
func TestP9_3ErrorsOfArgument(t *testing.T) {
	for i, f := range faults() {
		c := spoiled()
		f.spoil(&c)
		if i == 2 || f.err == api.ErrRange || f.err == api.ErrMany && len(c.Details) > 0 {
			continue // an error of points or details
		}
		m := refFine(spoiled())
		far := slices.Repeat([]api.Point{at(1, math.MinInt, math.MaxInt)}, len(m.points))
		for _, fine := range [][]api.Point{nil, m.places(), far, far[1:]} {
			checkAnalysis(t, c, fine, api.Control{}, f.err)
		}
	}
}

// P9.3: fine with other numbers of points.
func TestP9_3Numbers(t *testing.T) {
	for steps := range 4 {
		for _, b := range bodies() {
			c := b.control(steps)
			fine := fineOf(t, c)
			far := slices.Repeat([]api.Point{at(1, math.MinInt, math.MaxInt)}, len(fine)+1)
			for _, other := range [][]api.Point{append(slices.Clone(fine), api.Point{}), far, far[:max(0, len(fine)-1)], fine[:max(0, len(fine)-1)], nil, {}, fine[:len(c.Points)]} {
				if len(other) != len(fine) {
					checkAnalysis(t, c, other, api.Control{}, api.ErrArg)
				}
			}
			checkAnalysis(t, c, fine, completed(c), api.OK)
		}
	}
}

// stepOf returns the step that adds the point, or -1.
func stepOf(c api.Control, number int) int {
	first, tris := len(c.Points), c.Tris
	for k := -1; ; k++ {
		if number < first {
			return k
		}
		first, tris = refCut(first, tris)
	}
}

// P9.3: points that are no multiples of 16^Steps, and new points that would need details
// that are no integers.
func TestP9_3NoIntegers(t *testing.T) {
	for steps := range 4 {
		c := tetrahedron().beside(body{points: 1}).control(steps)
		plain := fineOf(t, c)
		for number, p := range plain {
			if steps == 3 && number > 12 && number%7 > 0 {
				continue
			}
			unit := power(steps - 1 - stepOf(c, number))
			for _, by := range []int{1, -1, 15, 16, 17, -16, 255, 256, -256, 257, 4095, 4096, unit, -unit, unit / 2, unit / 16} {
				axis := number % 3
				coordinates := []int{p.X, p.Y, p.Z}
				coordinates[axis] += by
				fine := slices.Clone(plain)
				fine[number] = at(coordinates[0], coordinates[1], coordinates[2])
				found, err := refAnalyse(c, fine)
				if isMultiple := by%unit == 0; isMultiple == (err == api.ErrForm) {
					t.Fatalf("%d steps, point %d moved by %d: the reference has %v", steps, number, by, err)
				}
				checkAnalysis(t, c, fine, found, err)
			}
		}
	}
}

// P9.3: points and details at the ends of their ranges, and beyond.
func TestP9_3Range(t *testing.T) {
	for steps := range 4 {
		c := octahedron().control(steps)
		m := refFine(c)
		for number := range m.points {
			if steps == 3 && number%11 > 0 {
				continue
			}
			k := stepOf(c, number)
			unit := power(steps - 1 - k)
			least, most := -2097151, 2097151
			if k < 0 {
				least, most = 0, greatest(steps)
			}
			for _, x := range []int{least - 1, least, most, most + 1, least - 1<<32, most + 1<<32, most + 1<<47} {
				fine := m.places()
				axis := number % 3
				coordinates := []int{fine[number].X, fine[number].Y, fine[number].Z}
				if k < 0 {
					coordinates[axis] = 0
				}
				coordinates[axis] += x * unit
				fine[number] = at(coordinates[0], coordinates[1], coordinates[2])
				found, err := refAnalyse(c, fine)
				if isFar := x < least || x > most; isFar && err != api.ErrRange || !isFar && k >= 0 && stepOf(c, number) == steps-1 && err != api.OK {
					t.Fatalf("%d steps, point %d at %d units: the reference has %v", steps, number, x, err)
				}
				checkAnalysis(t, c, fine, found, err)
			}
		}
	}
}

// P9.3: coordinates for which sums and products wrap around: no detail becomes right by
// that, nor any integer.
func TestP9_3WrappingAround(t *testing.T) {
	shifts := []int{1 << 50, -1 << 50, 1 << 59, 1 << 60, -1 << 60, 1 << 61, 3 << 60, 1 << 62, -1 << 62, math.MinInt}
	g := generator(935)
	for steps := range 4 {
		c := octahedron().control(steps)
		plain := fineOf(t, c)
		for _, shift := range shifts {
			for _, numbers := range [][2]int{{0, len(plain)}, {0, 1}, {0, len(c.Points)}, {len(c.Points) - 1, len(c.Points)}, {len(c.Points), len(plain)}, {len(plain) - 1, len(plain)}, {g.below(len(plain)), len(plain)}} {
				fine := slices.Clone(plain)
				for i := numbers[0]; i < numbers[1]; i++ {
					fine[i].Z += shift
				}
				want := api.ErrRange
				if slices.Equal(fine, plain) {
					continue // without steps, there are no new points
				}
				if _, err := refAnalyse(c, fine); err != want {
					t.Fatalf("%d steps, points %v moved by %d: the reference has %v", steps, numbers, shift, err)
				}
				checkAnalysis(t, c, fine, api.Control{}, want)
			}
		}
	}
}

// P9.3: integers count before ranges, wherever the points are that are wrong.
func TestP9_3Order(t *testing.T) {
	for steps := 1; steps <= 2; steps++ {
		c := tetrahedron().control(steps)
		plain := fineOf(t, c)
		beforeLast := []int{4, 10}[steps-1] // so many points have to be multiples of 16 at least
		for broken := range beforeLast {
			for far := range plain {
				for _, x := range []int{math.MinInt, -1 << 40, 1 << 40, math.MaxInt &^ 0xffff} {
					fine := slices.Clone(plain)
					fine[far].X = x
					checkAnalysis(t, c, fine, api.Control{}, api.ErrRange)
					fine[broken].Y++
					checkAnalysis(t, c, fine, api.Control{}, api.ErrForm)
				}
			}
		}
	}
}

// P9.3: fine with many sorts of points, compared with the definitions.
func TestP9_3Reference(t *testing.T) {
	seen := map[api.Errno]int{}
	extremes := []int{math.MinInt, math.MinInt + 1, -1 << 62, -1 << 40, -65536, -1, 0, 1, 16, 256, 4096, 65536, 2097151, 2097152, 1 << 33, 1<<60 + 1, 1 << 62, math.MaxInt &^ 0xffff, math.MaxInt}
	forControls(936, 1200, func(g *generator, c api.Control) {
		fine := fineOf(t, c)
		for range g.below(4) {
			if len(fine) == 0 {
				break
			}
			p := &fine[g.below(len(fine))]
			switch g.below(4) {
			case 0:
				p.X = pick(g, extremes)
			case 1:
				p.Y += pick(g, extremes)
			case 2:
				p.Z += g.between(-40, 40) * power(g.below(c.Steps+1))
			case 3:
				*p = pick(g, fine)
			}
		}
		if g.below(20) == 0 {
			fine = append(fine, api.Point{})[g.below(2):]
		}
		want, err := refAnalyse(c, fine)
		seen[err]++
		checkAnalysis(t, c, fine, want, err)
	})
	if min(seen[api.OK], seen[api.ErrArg], seen[api.ErrForm], seen[api.ErrRange]) < 20 {
		t.Errorf("errors: %v", seen)
	}
}
