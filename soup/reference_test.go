package soup_test

import (
	"math/big"
	"regexp"
	"strings"
	"testing"

	"lithophane/api"
	"lithophane/soup"
)

// The reference reads texts with regular expressions and big numbers.

var (
	comment  = regexp.MustCompile(`(?s)#.*`)
	wordForm = regexp.MustCompile(`[^\t\r ]+`)
	cornerV  = regexp.MustCompile(`^v( -?[0-9]+){3}$`)
	corner   = regexp.MustCompile(`^-?[0-9]+( -?[0-9]+){2}$`)
	facet    = regexp.MustCompile(`^f( -?[0-9]+){3,}$`)
	heading  = regexp.MustCompile(`^poly [0-9]+$`)
	numbers  = regexp.MustCompile(`-?[0-9]+`)
	long     = regexp.MustCompile(`[0-9]{16}`)
)

type reference struct {
	corners []api.Point
	polys   []api.Poly
	missing int
}

// referenceRead is Read for texts.
func referenceRead(text string) ([]api.Poly, int, api.Errno) {
	r := &reference{}
	read := (*reference).form1
	known := false
	all := strings.Split(text, "\n")
	for i, s := range all {
		words := wordForm.FindAllString(comment.ReplaceAllString(s, ""), -1)
		if len(words) == 0 {
			continue
		}
		if !known && words[0] == "poly" {
			read = (*reference).form2
		}
		known = true
		if e := read(r, strings.Join(words, " "), i+1); e != api.OK {
			return nil, i + 1, e
		}
	}
	if r.missing > 0 {
		return nil, len(all), api.ErrShort
	}
	return r.polys, 0, api.OK
}

func (r *reference) form1(s string, place int) api.Errno {
	switch {
	case cornerV.MatchString(s):
		p, e := pointOf(s)
		r.corners = append(r.corners, p)
		return e
	case !facet.MatchString(s):
		return api.ErrSyntax
	}
	chosen := numbers.FindAllString(s, -1)
	if len(chosen) > 64 {
		return api.ErrMany
	}
	if long.MatchString(s) {
		return api.ErrNumber
	}
	p := api.Poly{Place: place}
	for _, word := range chosen {
		n := bigOf(word).Int64()
		switch count := int64(len(r.corners)); {
		case 1 <= n && n <= count:
			p.Corners = append(p.Corners, r.corners[n-1])
		case -count <= n && n <= -1:
			p.Corners = append(p.Corners, r.corners[count+n])
		default:
			return api.ErrIndex
		}
	}
	if len(r.polys) == 65536 {
		return api.ErrMany
	}
	r.polys = append(r.polys, p)
	return api.OK
}

func (r *reference) form2(s string, place int) api.Errno {
	if r.missing > 0 {
		if !corner.MatchString(s) {
			return api.ErrSyntax
		}
		p, e := pointOf(s)
		last := &r.polys[len(r.polys)-1]
		last.Corners = append(last.Corners, p)
		r.missing--
		return e
	}
	if !heading.MatchString(s) {
		return api.ErrSyntax
	}
	sides := bigOf(strings.Fields(s)[1])
	if long.MatchString(s) || sides.Cmp(big.NewInt(3)) < 0 {
		return api.ErrNumber
	}
	if sides.Cmp(big.NewInt(64)) > 0 || len(r.polys) == 65536 {
		return api.ErrMany
	}
	r.missing = int(sides.Int64())
	r.polys = append(r.polys, api.Poly{Place: place})
	return api.OK
}

// pointOf returns the point of the three numbers of s.
func pointOf(s string) (api.Point, api.Errno) {
	if long.MatchString(s) {
		return api.Point{}, api.ErrNumber
	}
	var values [3]int
	for i, word := range numbers.FindAllString(s, -1) {
		n := bigOf(word)
		if n.Sign() < 0 || n.Cmp(big.NewInt(2097151)) > 0 {
			return api.Point{}, api.ErrRange
		}
		values[i] = int(n.Int64())
	}
	return api.Point{X: values[0], Y: values[1], Z: values[2]}, api.OK
}

func bigOf(word string) *big.Int {
	n, _ := new(big.Int).SetString(word, 10)
	return n
}

// agrees checks that Read returns what the reference does.
func agrees(t *testing.T, text string) api.Errno {
	t.Helper()
	l, place, e := referenceRead(text)
	if e != api.OK {
		fails(t, text, place, e)
	} else {
		reads(t, text, l...)
	}
	return e
}

// word returns a word of one kind or another, mostly a number that is permitted.
func (g *generator) word() string {
	if g.below(4) > 0 {
		return g.oneOf("1", "2", "3")
	}
	return g.oneOf("0", "-0", "-1", "-2", "-3", "4", "-4", "5", "03", "-01", "64", "65", "2097151", "2097152",
		"000000000000001", "0000000000000001", "-000000000000002", "-0000000000000002", "999999999999999", "1000000000000000",
		"18446744073709551617", "x", "1x", "-", "--1", "+1", "1-", "1.0", "v", "f", "poly")
}

// blank returns blanks, mostly one, and rarely something that is none.
func (g *generator) blank() string {
	if g.below(20) > 0 {
		return g.oneOf(" ", " ", " ", "\t", "\r", "  ", " \t\r ")
	}
	return g.oneOf("\v", "\f", "\x00", "\u00a0", "\x85", "#", " # ")
}

// line returns a line: a first word with as many numbers as it needs, mostly.
func (g *generator) line(first string, count int) string {
	if g.below(12) == 0 {
		first = g.oneOf("", "v", "f", "poly", "vt", "F", "1", "#")
	}
	s := first
	if first == "f" && g.below(8) == 0 {
		s += strings.Repeat(" 1", 60+g.below(8))
		count = g.below(2)
	}
	if first == "" && g.below(2) == 0 {
		s = g.word()
		count--
	}
	if g.below(16) == 0 {
		count = g.below(6)
	}
	for range count {
		s += g.blank() + g.word()
	}
	return s + g.oneOf("", "", "", " ", "\r", "\t", "#", " # 1 2", "# v 1 2 3")
}

// text returns a text of form 1 or 2, often with errors.
func (g *generator) text() string {
	var all []string
	for range g.below(3) {
		all = append(all, g.oneOf("", " ", "# poly", "\r"))
	}
	if g.below(2) == 0 {
		for range g.below(8) {
			all = append(all, g.line(g.oneOf("v", "v", "f"), 3))
		}
	} else {
		for range g.below(3) {
			all = append(all, g.line("poly", 0)+g.oneOf(" 3", "\t3", " 3", " 4", " 03", " 2", " -3", ""))
			for range 3 {
				all = append(all, g.line("", 3))
			}
		}
	}
	return strings.Join(all, "\n") + g.oneOf("", "", "\n", "\n\n", "\n#")
}

// P3.4: Read returns what the reference does, for texts with one error, several, or none.
func TestP3_4ReadLikeReference(t *testing.T) {
	g := generator(4)
	seen := map[api.Errno]int{}
	for range 60000 {
		seen[agrees(t, g.text())]++
	}
	for _, kind := range []api.Errno{api.OK, api.ErrMany, api.ErrRange, api.ErrSyntax, api.ErrNumber, api.ErrShort, api.ErrIndex} {
		if seen[kind] < 100 {
			t.Errorf("error %d: only %d texts", kind, seen[kind])
		}
	}
}

// P1: Read returns for all strings, also of bytes that mean nothing; texts as the reference reads them.
func TestP1ReadAnyString(t *testing.T) {
	const alphabet = "vfpoly 0123456789-#\t\r\n\n  SOUP\x00\x01\x02\x03\x04\x40\x41\xff\xc0"
	g := generator(5)
	for range 20000 {
		b := make([]byte, g.below(40))
		for i := range b {
			b[i] = alphabet[g.below(len(alphabet))]
		}
		if s := string(b); !strings.HasPrefix(s, "SOUP") {
			agrees(t, s)
		}
		soup.Read("SOUP" + string(b))
		soup.Read("SOUP\x01\x00\x00\x00" + string(b))
	}
}
