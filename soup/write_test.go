package soup_test

import (
	"math"
	"slices"
	"strings"
	"testing"

	"lithophane/api"
	"lithophane/soup"
)

// P3.5: forms that do not exist, with lists that have no error, and lists that have.
func TestP3_5Arg(t *testing.T) {
	for _, form := range []int{0, 4, -1, 5, 257, -3, math.MaxInt, math.MinInt} {
		refuses(t, form, nil, api.ErrArg)
		refuses(t, form, []api.Poly{poly(0, 1, 2, 3, 4, 5, 6, 7, 8, 9)}, api.ErrArg)
		refuses(t, form, []api.Poly{{}}, api.ErrArg)
		refuses(t, form, make([]api.Poly, api.MaxPolys+1), api.ErrArg)
	}
}

// P3.5: empty lists.
func TestP3_5Empty(t *testing.T) {
	for form, want := range map[int]string{1: "", 2: "", 3: "SOUP\x00\x00\x00\x00"} {
		writes(t, form, want)
		writes(t, form, want, []api.Poly{}...)
	}
}

// P3.5: points that occur more than once, in one polygon and in several, have one line.
func TestP3_5Indexed(t *testing.T) {
	writes(t, 1, lines("v 9 0 0", "v 0 0 0", "f 1 2 1"), poly(7, 9, 0, 0, 0, 0, 0, 9, 0, 0))
	writes(t, 1, lines("v 1 1 1", "f 1 1 1", "f 1 1 1 1"), poly(0, 1, 1, 1, 1, 1, 1, 1, 1, 1), poly(0, 1, 1, 1, 1, 1, 1, 1, 1, 1, 1, 1, 1))
	writes(t, 1, lines("v 0 0 0", "v 2097151 1 10", "v 1 2097151 0", "f 1 2 3", "v 10 1 2097151", "v 1 0 0", "f 4 3 2 5", "f 1 4 2"),
		poly(-5, 0, 0, 0, 2097151, 1, 10, 1, 2097151, 0), poly(0, 10, 1, 2097151, 1, 2097151, 0, 2097151, 1, 10, 1, 0, 0),
		poly(3, 0, 0, 0, 10, 1, 2097151, 2097151, 1, 10))
}

// P3.5: in form 2, each corner of each polygon has a line.
func TestP3_5Listed(t *testing.T) {
	writes(t, 2, lines("poly 3", "9 0 0", "0 2097151 10", "9 0 0", "poly 4", "0 0 1", "9 0 0", "1 2 3", "100 20 3"),
		poly(7, 9, 0, 0, 0, 2097151, 10, 9, 0, 0), poly(-1, 0, 0, 1, 9, 0, 0, 1, 2, 3, 100, 20, 3))
	want := "poly 64\n" + strings.Repeat("7 8 9\n", 64)
	writes(t, 2, want, api.Poly{Corners: slices.Repeat([]api.Point{{X: 7, Y: 8, Z: 9}}, 64)})
}

// P3.5: form 3.
func TestP3_5Binary(t *testing.T) {
	first := poly(99, 1, 2, 3, 2097151, 256, 65536, 0x020304, 0, 2097150)
	writes(t, 3, one+tri, first)
	writes(t, 3, square, first, poly(-1, 7, 8, 9, 7, 8, 9, 7, 8, 9, 7, 8, 9))
	writes(t, 3, one+"\x40"+strings.Repeat(nine, 64), api.Poly{Corners: slices.Repeat([]api.Point{{X: 7, Y: 8, Z: 9}}, 64)})
}

// P3.5: numbers of corners.
func TestP3_5Sides(t *testing.T) {
	for form := 1; form <= 3; form++ {
		for sides, kind := range map[int]api.Errno{0: api.ErrNumber, 1: api.ErrNumber, 2: api.ErrNumber, 3: api.OK, 4: api.OK, 63: api.OK,
			64: api.OK, 65: api.ErrMany, 66: api.ErrMany, 256 + 3: api.ErrMany, 1000: api.ErrMany} {
			l := []api.Poly{poly(0, 1, 2, 3, 4, 5, 6, 7, 8, 9), {Corners: make([]api.Point, sides)}}
			if kind != api.OK {
				refuses(t, form, l, kind)
			} else if s, e := soup.Write(form, l); s == "" || e != api.OK {
				t.Errorf("form %d, %d corners: %q, error %d", form, sides, s, e)
			}
		}
		refuses(t, form, []api.Poly{{}}, api.ErrNumber)
		refuses(t, form, []api.Poly{{Corners: []api.Point{}}}, api.ErrNumber)
	}
}

// P3.5: numbers that are no coordinates, of any corner.
func TestP3_5Range(t *testing.T) {
	for form := 1; form <= 3; form++ {
		for at := range 12 {
			for _, n := range []int{-1, -2097151, api.MaxCoord + 1, 1 << 24, 1<<24 + 5, 1 << 32, math.MaxInt, math.MinInt} {
				coordinates := []int{1, 2, 3, 4, 5, 6, 7, 8, 9, 0, api.MaxCoord, 0}
				coordinates[at] = n
				refuses(t, form, []api.Poly{poly(0, 1, 2, 3, 4, 5, 6, 7, 8, 9), poly(0, coordinates...)}, api.ErrRange)
			}
		}
	}
}

// P3.5: the first polygon with an error decides; of its errors, the number of corners.
func TestP3_5FirstError(t *testing.T) {
	wrong := map[api.Errno]api.Poly{
		api.ErrNumber: {Corners: []api.Point{{X: -1}, {X: -1}}},
		api.ErrMany:   {Corners: slices.Repeat([]api.Point{{X: -1}}, 65)},
		api.ErrRange:  {Corners: slices.Repeat([]api.Point{{X: -1}}, 64)},
	}
	right := poly(0, 1, 2, 3, 4, 5, 6, 7, 8, 9)
	for form := 1; form <= 3; form++ {
		for kind, p := range wrong {
			for _, other := range wrong {
				refuses(t, form, []api.Poly{right, p, other}, kind)
				refuses(t, form, []api.Poly{p, right, other, other}, kind)
			}
		}
	}
}

// P3.5: at most MaxPolys polygons, whatever errors they have.
func TestP3_5MaxPolys(t *testing.T) {
	l := slices.Repeat([]api.Poly{poly(0, 1, 2, 3, 4, 5, 6, 7, 8, 9)}, api.MaxPolys+1)
	for form := 1; form <= 3; form++ {
		refuses(t, form, l, api.ErrMany)
		if s, e := soup.Write(form, l[1:]); s == "" || e != api.OK {
			t.Errorf("form %d: %s, error %d", form, brief(s), e)
		}
		refuses(t, form, make([]api.Poly, api.MaxPolys+1), api.ErrMany)
		refuses(t, form, make([]api.Poly, api.MaxPolys), api.ErrNumber)
	}
}

// P3.5: the list is not changed.
func TestP3_5ArgumentUnchanged(t *testing.T) {
	g := generator(2)
	for range 50 {
		l := g.polys()
		var before []api.Poly
		for _, p := range l {
			before = append(before, api.Poly{Corners: slices.Clone(p.Corners), Place: p.Place})
		}
		for form := 1; form <= 3; form++ {
			soup.Write(form, l)
		}
		if !slices.EqualFunc(l, before, equal) {
			t.Fatalf("list changed: %v, want %v", l, before)
		}
	}
}
