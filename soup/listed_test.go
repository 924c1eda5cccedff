package soup_test

import (
	"strconv"
	"strings"
	"testing"

	"lithophane/api"
	"lithophane/soup"
)

// countsPolys checks that Read returns MaxPolys polygons, whose places begin with first and grow by step.
func countsPolys(t *testing.T, s string, first, step int) {
	t.Helper()
	l, place, e := soup.Read(s)
	if len(l) != api.MaxPolys || place != 0 || e != api.OK {
		t.Fatalf("Read(%s): %d polygons, place %d, error %d", brief(s), len(l), place, e)
	}
	for i, p := range l {
		if p.Place != first+i*step || len(p.Corners) != 3 {
			t.Fatalf("polygon %d of %s: place %d, %d corners", i, brief(s), p.Place, len(p.Corners))
		}
	}
}

// P3.2: polygons and their places.
func TestP3_2Polygons(t *testing.T) {
	reads(t, "poly 3\n1 2 3\n4 5 6\n7 8 9", poly(1, 1, 2, 3, 4, 5, 6, 7, 8, 9))
	reads(t, "\n# two\n poly 3\n1 2 3\n\n4 5 6\n7 8 9 # last\n\npoly 004#\n0 0 0\n0 0 0\n2097151 000000000000001 -0\n0 0 0\n\n",
		poly(3, 1, 2, 3, 4, 5, 6, 7, 8, 9), poly(9, 0, 0, 0, 0, 0, 0, 2097151, 1, 0, 0, 0, 0))
}

// P3.2: numbers of corners, and errors of the lines that begin a polygon; it may be the first or a later one.
func TestP3_2Sides(t *testing.T) {
	corners := strings.Repeat("1 2 3\n", 64)
	for _, sides := range []string{"3", "4", "63", "64", "003", "000000000000064"} {
		l, _, e := soup.Read("poly " + sides + "\n" + corners[:6*count(sides)])
		if len(l) != 1 || len(l[0].Corners) != count(sides) || e != api.OK {
			t.Errorf("poly %s: %v, error %d", sides, l, e)
		}
	}
	for s, kind := range map[string]api.Errno{
		"poly": api.ErrSyntax, "poly x": api.ErrSyntax, "poly 3x": api.ErrSyntax, "poly 3 4": api.ErrSyntax, "poly 3 x": api.ErrSyntax,
		"poly -3": api.ErrSyntax, "poly -0": api.ErrSyntax, "poly -3000000000000000": api.ErrSyntax, "poly -": api.ErrSyntax,
		"poly +3": api.ErrSyntax, "poly --3": api.ErrSyntax, "poly poly 3": api.ErrSyntax, "poly 1000000000000000 x": api.ErrSyntax,
		"poly" + strings.Repeat(" 3", 200): api.ErrSyntax,
		"poly 0":                           api.ErrNumber, "poly 1": api.ErrNumber, "poly 2": api.ErrNumber, "poly 000000000000002": api.ErrNumber,
		"poly 0000000000000003": api.ErrNumber, "poly 3000000000000000": api.ErrNumber, "poly 18446744073709551619": api.ErrNumber,
		"poly 65": api.ErrMany, "poly 66": api.ErrMany, "poly 259": api.ErrMany, "poly 4294967299": api.ErrMany, "poly 999999999999999": api.ErrMany,
	} {
		fails(t, s, 1, kind)
		fails(t, "\n"+s+"\n"+corners, 2, kind)
		fails(t, "poly 3\n"+corners[:18]+s+"\n"+corners, 5, kind)
	}
}

func count(s string) int {
	n, _ := strconv.Atoi(s)
	return n
}

// P3.2: lines where a polygon should begin, and do not do so.
func TestP3_2OtherLines(t *testing.T) {
	for _, s := range []string{"1 2 3", "v 1 2 3", "f 1 2 3", "Poly 3", "poly3", "polygon 3", "3", "3 3", "\x00"} {
		fails(t, "poly 3\n1 2 3\n4 5 6\n7 8 9\n"+s+"\n?", 5, api.ErrSyntax)
	}
}

// P3.2: errors of the lines of corners, the first and the last one.
func TestP3_2Corners(t *testing.T) {
	for s, kind := range map[string]api.Errno{
		"1": api.ErrSyntax, "1 2": api.ErrSyntax, "1 2 3 4": api.ErrSyntax, "v 1 2 3": api.ErrSyntax, "1 2 x": api.ErrSyntax, "- 1 2": api.ErrSyntax,
		"poly 3": api.ErrSyntax, "poly 3 3": api.ErrSyntax, "1 +2 3": api.ErrSyntax, "1 --2 3": api.ErrSyntax,
		strings.Repeat(" 1", 200): api.ErrSyntax, "-1 1000000000000000 x": api.ErrSyntax, "1000000000000000 -1": api.ErrSyntax,
		"1000000000000000 2 3": api.ErrNumber, "1 -0000000000000000 3": api.ErrNumber, "-1 2097152 0000000000000001": api.ErrNumber,
		"-1 2 3": api.ErrRange, "1 -1 3": api.ErrRange, "1 2 -1": api.ErrRange, "2097152 2 3": api.ErrRange, "1 2097152 3": api.ErrRange,
		"1 2 2097152": api.ErrRange, "999999999999999 2 3": api.ErrRange, "1 2 -999999999999999": api.ErrRange,
	} {
		fails(t, "poly 3\n"+s, 2, kind)
		fails(t, "poly 3\n"+s+"\n4 5 6\n7 8 9\n", 2, kind)
		fails(t, "poly 3\n1 2 3\n\n4 5 6\n"+s+"\npoly 3\n", 5, kind)
	}
}

// P3.2: the text ends before the last corner; the place is its last line, whether it has words or not.
func TestP3_2Short(t *testing.T) {
	for s, place := range map[string]int{
		"poly 3": 1, "poly 3\n": 2, "poly 3\n1 2 3\n4 5 6": 3, "poly 3\n1 2 3\n4 5 6\n": 4, "poly 3\n1 2 3\n4 5 6\n\n\n": 6,
		"\n\npoly 3 # 1 2 3": 3, "poly 3\n1 2 3\n4 5 6\n# 7 8 9": 4, "poly 4\n1 2 3\n4 5 6\n7 8 9": 4, "poly 64\n#\n \n\t\n": 5,
		"poly 3\n1 2 3\n4 5 6\n7 8 9\npoly 3\n1 2 3\n4 5 6\n": 8, "poly 3\n1 2 3\n4 5 6\n7 8 9\npoly 4": 5,
		"poly 64\n" + strings.Repeat("1 2 3\n", 63): 65,
	} {
		fails(t, s, place, api.ErrShort)
	}
}

// P3.2: MaxPolys polygons are permitted; one more is the last error of its line.
func TestP3_2MaxPolys(t *testing.T) {
	full := strings.Repeat("poly 3\n1 2 3\n4 5 6\n7 8 9\n", api.MaxPolys)
	countsPolys(t, full, 1, 4)
	countsPolys(t, full+"\n#\n", 1, 4)
	for s, kind := range map[string]api.Errno{
		"poly 3": api.ErrMany, "poly 65": api.ErrMany, "poly 2": api.ErrNumber, "poly 0000000000000003": api.ErrNumber,
		"poly -3": api.ErrSyntax, "poly": api.ErrSyntax, "1 2 3": api.ErrSyntax,
	} {
		fails(t, full+"\n"+s+"\n1 2 3\n4 5 6\n7 8 9\n", 4*api.MaxPolys+2, kind)
		fails(t, full+s, 4*api.MaxPolys+1, kind)
	}
}
