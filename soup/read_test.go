package soup_test

import (
	"slices"
	"strings"
	"testing"

	"lithophane/api"
	"lithophane/soup"
)

// triangle are the lines of a text of form 1 with one polygon.
func triangle() []string { return []string{"v 1 2 3", "v 4 5 6", "v 7 8 9", "f 1 2 3"} }

// P3.4: texts without polygons, with and without lines.
func TestP3_4Nothing(t *testing.T) {
	for _, s := range []string{"", "\n", "\n\n\n", " ", "\t\r \n", "#", "# poly 3", "#\n#", "v 1 2 3", "v 1 2 3\n", "\r\n\r\n", "#\x00\xff\n"} {
		reads(t, s)
	}
}

// P3.4: the first word of the first line with words tells form 2 from form 1.
func TestP3_4Forms(t *testing.T) {
	for _, head := range []string{"", "\n", "# v 1 2 3\n", " \t\r\n\n#\n"} {
		place := strings.Count(head, "\n")
		for _, blank := range []string{"", " ", "\t", "\r \t"} {
			reads(t, head+blank+"poly\t3\n1 2 3\n4 5 6\n7 8 9", poly(place+1, 1, 2, 3, 4, 5, 6, 7, 8, 9))
			reads(t, head+blank+"v 1 2 3\nf 1 1 1", poly(place+2, 1, 2, 3, 1, 2, 3, 1, 2, 3))
		}
		fails(t, head+"poly# 3", place+1, api.ErrSyntax)
		fails(t, head+"poly\nv 1 2 3", place+1, api.ErrSyntax)
		fails(t, head+"poly 3\nv 1 2 3", place+2, api.ErrSyntax)
		fails(t, head+"v 1 2 3\npoly 3\n1 2 3\n4 5 6\n7 8 9", place+2, api.ErrSyntax)
		fails(t, head+"1 2 3\npoly 3", place+1, api.ErrSyntax)
		fails(t, head+"v poly 3\npoly 3", place+1, api.ErrSyntax)
		for _, s := range []string{"poly3", "Poly 3", "POLY 3", "polygon 3", "pol 3", "\vpoly 3", "\u00a0poly 3", "\x00poly 3", "-poly 3"} {
			fails(t, head+s+"\n1 2 3\n4 5 6\n7 8 9", place+1, api.ErrSyntax)
		}
	}
}

// P3.4: only the bytes 9, 13 and 32 are blanks.
func TestP3_4Blanks(t *testing.T) {
	for c := range 256 {
		blank := string([]byte{byte(c)})
		s := three + "f 1" + blank + "2 3 1"
		switch {
		case c == 9 || c == 13 || c == 32:
			reads(t, s, poly(4, 1, 2, 3, 4, 5, 6, 7, 8, 9, 1, 2, 3))
		case c == '\n':
			fails(t, s, 4, api.ErrSyntax)
		case c == '#':
			fails(t, s, 4, api.ErrSyntax)
		case '0' <= c && c <= '9':
			fails(t, s, 4, api.ErrIndex)
		default:
			fails(t, s, 4, api.ErrSyntax)
		}
	}
	for _, blank := range []string{"\u00a0", "\u0085", "\u2028", "\u3000", "\xc0\xa0", "\xe2\x80"} {
		fails(t, three+"f 1"+blank+"2 3 1", 4, api.ErrSyntax)
		fails(t, three+blank, 4, api.ErrSyntax)
	}
}

// P3.4: lines end with the byte 10 alone, the last one also without it.
func TestP3_4Lines(t *testing.T) {
	want := poly(4, 1, 2, 3, 4, 5, 6, 7, 8, 9)
	reads(t, strings.Join(triangle(), "\n"), want)
	reads(t, strings.Join(triangle(), "\n")+"\n", want)
	reads(t, strings.Join(triangle(), "\r\n")+"\r\n", want)
	fails(t, strings.Join(triangle(), "\r"), 1, api.ErrSyntax)
	fails(t, strings.Join(triangle(), "\n\r\n\n")+"\nx", 11, api.ErrSyntax)
}

// P3.4: of errors in two lines, the first one decides, whatever its kind is.
func TestP3_4FirstLine(t *testing.T) {
	wrong := map[string]api.Errno{"v 1 2": api.ErrSyntax, "v 1 2 3000000000000000": api.ErrNumber, "v 1 2 -3": api.ErrRange,
		"f 1 1 1 8": api.ErrIndex, "f 1 1" + strings.Repeat(" 1", 63): api.ErrMany, "poly 3": api.ErrSyntax}
	for s, kind := range wrong {
		for other := range wrong {
			fails(t, "v 1 2 3\n"+s+"\n"+other, 2, kind)
			fails(t, "v 1 2 3\n\nf 1 1 1\n"+s+"\nf 1 1 1\n"+other+"\n", 4, kind)
		}
	}
	corners := map[string]api.Errno{"1 2": api.ErrSyntax, "1 2 3000000000000000": api.ErrNumber, "1 2 -3": api.ErrRange}
	for s, kind := range corners {
		for other := range corners {
			fails(t, "poly 3\n"+s+"\n"+other, 2, kind)
			fails(t, "poly 3\n1 2 3\n"+s+"\n"+other+"\npoly 2", 3, kind)
		}
		fails(t, "poly 3\n1 2 3\n4 5 6\n7 8 9\npoly 2\n"+s, 5, api.ErrNumber)
		fails(t, "poly 3\n1 2 3\n4 5 6\n7 8 9\npoly 65\n"+s, 5, api.ErrMany)
	}
}

// P3.4: polygons above an error are not returned.
func TestP3_4NoPolygonsWithError(t *testing.T) {
	fails(t, lines(triangle()...)+"x", 5, api.ErrSyntax)
	fails(t, "poly 3\n1 2 3\n4 5 6\n7 8 9\npoly 3\n1 2 3", 6, api.ErrShort)
	fails(t, square+"x", len(square), api.ErrForm)
}

// P3.4: results share no memory with each other, nor with later ones.
func TestP3_4Memory(t *testing.T) {
	for form := 1; form <= 3; form++ {
		corners := poly(0, 1, 2, 3, 1, 2, 3, 4, 5, 6).Corners
		s, _ := soup.Write(form, []api.Poly{{Corners: corners}, {Corners: corners}, {Corners: corners}})
		l, _, _ := soup.Read(s)
		again, _, _ := soup.Read(s)
		for i, p := range l {
			for j := range p.Corners[:cap(p.Corners)] {
				p.Corners[:cap(p.Corners)][j] = api.Point{X: -1}
			}
			for _, other := range append(slices.Clone(l[i+1:]), again...) {
				if !slices.Equal(other.Corners, corners) {
					t.Fatalf("form %d: corners of a polygon changed with those of another one", form)
				}
			}
		}
	}
}

// P3.4: a line with very many words, of which the last one decides.
func TestP3_4ManyWords(t *testing.T) {
	many := strings.Repeat(" 1", 1<<20)
	fails(t, three+"f"+many, 4, api.ErrMany)
	fails(t, three+"f"+many+" x", 4, api.ErrSyntax)
	fails(t, three+"f"+many+" x"+many, 4, api.ErrSyntax)
	fails(t, three+"f"+many+" 1000000000000000", 4, api.ErrMany)
	fails(t, three+"v"+many, 4, api.ErrSyntax)
	fails(t, "poly"+many, 1, api.ErrSyntax)
	fails(t, "poly 3\n"+many, 2, api.ErrSyntax)
	reads(t, lines(triangle()...)+"#"+many, poly(4, 1, 2, 3, 4, 5, 6, 7, 8, 9))
}
