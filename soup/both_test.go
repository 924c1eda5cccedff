package soup_test

import (
	"slices"
	"strings"
	"testing"

	"lithophane/api"
	"lithophane/soup"
)

// P3.6: Read of Write returns the polygons, apart from their places, for each form.
func TestP3_6ReadOfWrite(t *testing.T) {
	g := generator(6)
	lists := [][]api.Poly{nil, {}}
	for range 400 {
		lists = append(lists, g.polys())
	}
	for _, l := range lists {
		for form := 1; form <= 3; form++ {
			s, e := soup.Write(form, l)
			if e != api.OK {
				t.Fatalf("Write(%d, %v): error %d", form, l, e)
			}
			m, place, e := soup.Read(s)
			if !slices.EqualFunc(unplaced(m), unplaced(l), equal) || place != 0 || e != api.OK {
				t.Fatalf("form %d: %v, place %d, error %d, want %v", form, m, place, e, l)
			}
			if again, e := soup.Write(form, m); again != s || e != api.OK {
				t.Fatalf("form %d: %s, error %d, want %s", form, brief(again), e, brief(s))
			}
		}
	}
}

// P3.6: Read of Write returns the longest list of the largest polygons.
func TestP3_6Largest(t *testing.T) {
	l := make([]api.Poly, api.MaxPolys)
	for i := range l {
		sides := 3
		if i%512 == 0 {
			sides = api.MaxSides
		}
		for j := range sides {
			l[i].Corners = append(l[i].Corners, api.Point{X: i, Y: j % 5, Z: api.MaxCoord - i})
		}
	}
	for form := 1; form <= 3; form++ {
		s, _ := soup.Write(form, l)
		if m, place, e := soup.Read(s); !slices.EqualFunc(unplaced(m), l, equal) || place != 0 || e != api.OK {
			t.Errorf("form %d: %d polygons, place %d, error %d", form, len(m), place, e)
		}
	}
}

// P3.6: comments, blanks and lines without words change only the numbers of lines.
func TestP3_6Layout(t *testing.T) {
	g := generator(7)
	for range 400 {
		l := g.polys()
		for form := 1; form <= 2; form++ {
			s, _ := soup.Write(form, l)
			plain, _, _ := soup.Read(s)
			text, moved := g.layout(s)
			for i := range plain {
				plain[i].Place = moved[plain[i].Place-1]
			}
			reads(t, text, plain...)
		}
	}
}

// P3.6: the same holds for the place of an error.
func TestP3_6LayoutOfErrors(t *testing.T) {
	g := generator(8)
	for _, s := range []string{three + "f 1 2 3\nf 1 2 4\n", three + "v 1 2 -3\nx", three + "f 1 2 3000000000000000", "v 1\n", three + "vn 1 2 3\nv",
		"poly 3\n1 2 3\n1 2\n", "poly 3\n1 2 3\n4 5 6\n7 8 9\npoly 65\nx", "poly 2\n1 2 3\n4 5 6"} {
		_, place, kind := soup.Read(s)
		for range 50 {
			text, moved := g.layout(s)
			fails(t, text, moved[place-1], kind)
		}
	}
}

// layout returns the text with other blanks, comments, and lines without words, and
// the numbers that its lines have then.
func (g *generator) layout(s string) (text string, moved []int) {
	var all []string
	for l := range strings.Lines(s) {
		for range g.below(3) {
			all = append(all, g.blanks(0)+g.comment())
		}
		words := strings.Fields(l)
		l = g.blanks(0)
		for i, word := range words {
			if i > 0 {
				l += g.blanks(1)
			}
			l += word
		}
		all = append(all, l+g.blanks(0)+g.comment())
		moved = append(moved, len(all))
	}
	return strings.Join(all, "\n") + g.oneOf("", "\n", "\n\n#", "\n\r"), moved
}

// blanks returns so many blanks, or more.
func (g *generator) blanks(least int) string {
	var s string
	for range least + g.below(2)*g.below(4) {
		s += g.oneOf(" ", "\t", "\r")
	}
	return s
}

func (g *generator) comment() string {
	return g.oneOf("", "", "", "#", "# v 1 2 3", "#poly 3", "##", "# \x00\xff\u00a0 #", "#f")
}
