package soup_test

import (
	"strconv"
	"strings"
	"testing"

	"lithophane/api"
)

// three are the lines of three corners.
const three = "v 1 2 3\nv 4 5 6\nv 7 8 9\n"

// P3.1: corners and polygons, and the places of the latter.
func TestP3_1Polygons(t *testing.T) {
	reads(t, "v 0 0 0\nv 9 0 0\nv 0 9 0 # top\nf 1 2 -1", poly(4, 0, 0, 0, 9, 0, 0, 0, 9, 0))
	reads(t, three+"f 1 2 3\n\n# none\nf 3 2 1\nf 1 1 1 2", poly(4, 1, 2, 3, 4, 5, 6, 7, 8, 9), poly(7, 7, 8, 9, 4, 5, 6, 1, 2, 3),
		poly(8, 1, 2, 3, 1, 2, 3, 1, 2, 3, 4, 5, 6))
	reads(t, three)
	reads(t, "v 1 2 3\nv 1 2 3\nv 4 5 6\nf 1 2 3\n", poly(4, 1, 2, 3, 1, 2, 3, 4, 5, 6)) // equal corners have numbers of their own
}

// P3.1: coordinates at the ends of the range, with zeros in front, and -0.
func TestP3_1Coordinates(t *testing.T) {
	reads(t, "v 0 2097151 00\nv 000000002097151 -0 -000000000000000\nv 01 007 000000000000000\nf 1 2 3",
		poly(4, 0, 2097151, 0, 2097151, 0, 0, 1, 7, 0))
	for i := range 3 {
		for _, x := range []struct {
			word string
			kind api.Errno
		}{
			{"2097151", api.OK}, {"2097152", api.ErrRange}, {"-1", api.ErrRange}, {"-2097151", api.ErrRange},
			{"999999999999999", api.ErrRange}, {"-999999999999999", api.ErrRange}, {"-000000000000001", api.ErrRange},
			{"000000000000001", api.OK}, {"0000000000000001", api.ErrNumber}, {"-0000000000000000", api.ErrNumber},
			{"1000000000000000", api.ErrNumber}, {"-1000000000000000", api.ErrNumber},
			{"18446744073709551617", api.ErrNumber}, {strings.Repeat("0", 1000), api.ErrNumber},
			{"x", api.ErrSyntax}, {"1x", api.ErrSyntax}, {"-", api.ErrSyntax}, {"--1", api.ErrSyntax}, {"1-", api.ErrSyntax},
			{"+1", api.ErrSyntax}, {"1.0", api.ErrSyntax}, {"1e3", api.ErrSyntax}, {"0x1", api.ErrSyntax}, {"1_0", api.ErrSyntax},
			{"/", api.ErrSyntax}, {":", api.ErrSyntax}, {"\u0661", api.ErrSyntax}, {"1\x00", api.ErrSyntax}, {"", api.ErrSyntax},
		} {
			words := []string{"v", "1", "1", "1"}
			words[1+i] = x.word
			if s := "\n" + strings.Join(words, " "); x.kind == api.OK {
				reads(t, s)
			} else {
				fails(t, s, 2, x.kind)
			}
		}
	}
}

// P3.1: lines v with too few or too many words.
func TestP3_1CornerWords(t *testing.T) {
	for _, s := range []string{"v", "v 1", "v 1 2", "v 1 2 3 4", "v 1 2 3 x", "v v 1 2 3", "v 1 2 3 v 1 2 3", "v1 2 3", "v-1 2 3",
		"v" + strings.Repeat(" 1", 64), "v" + strings.Repeat(" 1", 200)} {
		fails(t, s, 1, api.ErrSyntax)
	}
}

// P3.1: of several errors of a line v, ErrSyntax comes before ErrNumber, and this before ErrRange.
func TestP3_1CornerErrorOrder(t *testing.T) {
	for s, kind := range map[string]api.Errno{
		"v 1000000000000000 -1 x":                 api.ErrSyntax,
		"v -1 1000000000000000":                   api.ErrSyntax,
		"v 1 2 3 1000000000000000":                api.ErrSyntax,
		"v -1 2097152 -":                          api.ErrSyntax,
		"v -1 1 1000000000000000":                 api.ErrNumber,
		"v 2097152 2097152 0000000000000000":      api.ErrNumber,
		"v 1000000000000000 1000000000000000 -1 ": api.ErrNumber,
	} {
		fails(t, s, 1, kind)
	}
}

// P3.1: the numbers of corners, from the beginning and from the end.
func TestP3_1Indices(t *testing.T) {
	all := [][3]int{{1, 2, 3}, {4, 5, 6}, {7, 8, 9}}
	for i, c := range all {
		want := poly(4, append(append([]int{1, 2, 3}, c[:]...), 7, 8, 9)...)
		reads(t, three+"f 1 "+strconv.Itoa(i+1)+" 3", want)
		reads(t, three+"f 1 "+strconv.Itoa(i-3)+" 3", want)
		reads(t, three+"f -3 00000000000000"+strconv.Itoa(i+1)+" -000000000000001", want)
	}
	for _, n := range []string{"0", "-0", "00", "4", "-4", "5", "65537", "4294967297", "999999999999999", "-999999999999999"} {
		for _, s := range []string{"f " + n + " 1 1", "f 1 " + n + " 1", "f 1 1 " + n, "f 1 1 1 " + n + " 1"} {
			fails(t, three+s, 4, api.ErrIndex)
		}
	}
	fails(t, "f 1 1 1", 1, api.ErrIndex)
	fails(t, "f -1 -1 -1", 1, api.ErrIndex)
	fails(t, "f 0 0 0", 1, api.ErrIndex)
}

// P3.1: only the corners of the lines above a line f count.
func TestP3_1CornersAbove(t *testing.T) {
	reads(t, "v 1 1 1\nf 1 1 -1\nv 2 2 2\nf 1 2 -1\nf -2 -1 1\n",
		poly(2, 1, 1, 1, 1, 1, 1, 1, 1, 1), poly(4, 1, 1, 1, 2, 2, 2, 2, 2, 2), poly(5, 1, 1, 1, 2, 2, 2, 1, 1, 1))
	fails(t, "v 1 1 1\nf 1 1 2\nv 2 2 2\n", 2, api.ErrIndex)
	fails(t, "v 1 1 1\nf -1 -1 -2\nv 2 2 2\n", 2, api.ErrIndex)
	fails(t, "f 1 2 3\n"+three, 1, api.ErrIndex)
}

// P3.1: polygons with few corners and with many.
func TestP3_1Sides(t *testing.T) {
	for _, sides := range []int{3, 4, 63, 64} {
		want := poly(4)
		for range sides {
			want.Corners = append(want.Corners, api.Point{X: 4, Y: 5, Z: 6})
		}
		reads(t, three+"f"+strings.Repeat(" 2", sides), want)
	}
	for _, sides := range []int{0, 1, 2} {
		fails(t, three+"f"+strings.Repeat(" 2", sides), 4, api.ErrSyntax)
	}
	for _, sides := range []int{65, 66, 67, 128, 5000} {
		fails(t, three+"f"+strings.Repeat(" 2", sides), 4, api.ErrMany)
		for _, at := range []int{0, 1, 62, 63, 64} {
			fails(t, three+"f"+strings.Repeat(" 2", at)+" x"+strings.Repeat(" 2", sides-at-1), 4, api.ErrSyntax)
			fails(t, three+"f"+strings.Repeat(" 2", sides-at-1)+" x"+strings.Repeat(" 2", at), 4, api.ErrSyntax)
		}
	}
}

// P3.1: of several errors of a line f, the first one of the list decides.
func TestP3_1FacetErrorOrder(t *testing.T) {
	many := strings.Repeat(" 1", 62)
	for s, kind := range map[string]api.Errno{
		"f 9 x 1000000000000000":              api.ErrSyntax,
		"f 9 1000000000000000":                api.ErrSyntax,
		"f x" + many + " 9 1":                 api.ErrSyntax,
		"f 9 1000000000000000" + many + " 1-": api.ErrSyntax,
		"f 9 1000000000000000" + many + " 1":  api.ErrMany,
		"f 9 9" + many + " 0":                 api.ErrMany,
		"f 9 1000000000000000" + many:         api.ErrNumber,
		"f 0 1 -0000000000000001":             api.ErrNumber,
		"f 0000000000000001 0 1":              api.ErrNumber,
		"f 9 9" + many:                        api.ErrIndex,
	} {
		fails(t, three+s, 4, kind)
	}
}

// P3.1: MaxPolys polygons are permitted, and one more is the last error of its line.
func TestP3_1MaxPolys(t *testing.T) {
	full := three + strings.Repeat("f 1 2 3\n", api.MaxPolys)
	countsPolys(t, full, 4, 1)
	countsPolys(t, full+"\n#\nv 1 1 1\n", 4, 1)
	for s, kind := range map[string]api.Errno{
		"f 1 2 3": api.ErrMany, "f 1 2 4": api.ErrIndex, "f 1 2 3000000000000000": api.ErrNumber, "f 1 2": api.ErrSyntax,
		"f 4" + strings.Repeat(" 1", 64): api.ErrMany, "v 1 1": api.ErrSyntax, "poly 3": api.ErrSyntax,
	} {
		fails(t, full+"\n"+s+"\n?", 3+api.MaxPolys+2, kind)
	}
	fails(t, full+"f 1 2 3\n", 3+api.MaxPolys+1, api.ErrMany)
}

// P3.1: every other line with words is an error.
func TestP3_1OtherLines(t *testing.T) {
	for _, s := range []string{"x", "1 2 3", "V 1 2 3", "F 1 2 3", "vn 0 0 1", "vt 0 0 0", "vf 1 2 3", "ff 1 2 3", "poly 3", "poly", "o name",
		"\x00", "\v", "\f", "\u00a0", "\ufeff", "-", "1", "f1 2 3", "S", "SO", "SOU", "soup", "SOUP", " SOUP\x00\x00\x00\x00"} {
		fails(t, three+s+"\n"+three, 4, api.ErrSyntax)
	}
}
