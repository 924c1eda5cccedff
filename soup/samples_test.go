package soup_test

import (
	"slices"
	"strconv"
	"strings"
	"testing"

	"lithophane/api"
	"lithophane/soup"
)

// fails checks that Read returns nothing but the place and the kind of an error.
func fails(t *testing.T, s string, place int, kind api.Errno) {
	t.Helper()
	if l, p, e := soup.Read(s); len(l) != 0 || p != place || e != kind {
		t.Errorf("Read(%s): %d polygons, place %d, error %d, want place %d, error %d", brief(s), len(l), p, e, place, kind)
	}
}

// reads checks that Read returns the polygons, with their places.
func reads(t *testing.T, s string, want ...api.Poly) {
	t.Helper()
	l, place, e := soup.Read(s)
	if !slices.EqualFunc(l, want, equal) || place != 0 || e != api.OK {
		t.Errorf("Read(%s): %v, place %d, error %d, want %v", brief(s), l, place, e, want)
	}
}

// writes checks that Write returns the string.
func writes(t *testing.T, form int, want string, l ...api.Poly) {
	t.Helper()
	if s, e := soup.Write(form, l); s != want || e != api.OK {
		t.Errorf("Write(%d): %s, error %d, want %s", form, brief(s), e, brief(want))
	}
}

// refuses checks that Write returns nothing but an error.
func refuses(t *testing.T, form int, l []api.Poly, want api.Errno) {
	t.Helper()
	if s, e := soup.Write(form, l); s != "" || e != want {
		t.Errorf("Write(%d): %s, error %d, want error %d", form, brief(s), e, want)
	}
}

// brief returns a string for a message.
func brief(s string) string {
	if len(s) > 400 {
		return strconv.Quote(s[:200]) + " .. " + strconv.Quote(s[len(s)-200:])
	}
	return strconv.Quote(s)
}

func equal(p, q api.Poly) bool { return p.Place == q.Place && slices.Equal(p.Corners, q.Corners) }

// poly returns a polygon; each three coordinates are a corner.
func poly(place int, coordinates ...int) api.Poly {
	p := api.Poly{Place: place}
	for c := range slices.Chunk(coordinates, 3) {
		p.Corners = append(p.Corners, api.Point{X: c[0], Y: c[1], Z: c[2]})
	}
	return p
}

// lines joins lines to a text that ends with a byte 10.
func lines(l ...string) string { return strings.Join(l, "\n") + "\n" }

// generator is a sequence of numbers that is the same in every run.
type generator uint64

func (g *generator) below(n int) int {
	*g ^= *g << 13
	*g ^= *g >> 7
	*g ^= *g << 17
	return int(uint64(*g) >> 11 % uint64(n))
}

func (g *generator) oneOf(choices ...string) string { return choices[g.below(len(choices))] }

func (g *generator) coordinate() int {
	return []int{0, 1, 2, 255, 256, 65535, 65536, api.MaxCoord - 1, api.MaxCoord, g.below(api.MaxCoord + 1)}[g.below(10)]
}

// polys returns a list of polygons with few corners or many, some of which are equal.
func (g *generator) polys() []api.Poly {
	l := make([]api.Poly, g.below(8))
	var known []api.Point
	for i := range l {
		sides := []int{3, 4, 5, 63, 64}[g.below(5)]
		for range sides {
			corner := api.Point{X: g.coordinate(), Y: g.coordinate(), Z: g.coordinate()}
			if len(known) > 0 && g.below(3) == 0 {
				corner = known[g.below(len(known))]
			}
			known = append(known, corner)
			l[i].Corners = append(l[i].Corners, corner)
		}
		l[i].Place = g.below(100) - 50
	}
	return l
}

// unplaced returns the polygons without their places.
func unplaced(l []api.Poly) []api.Poly {
	var all []api.Poly
	for _, p := range l {
		all = append(all, api.Poly{Corners: p.Corners})
	}
	return all
}
