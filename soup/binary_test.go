package soup_test

import (
	"strings"
	"testing"

	"lithophane/api"
)

// Pieces of strings of form 3: the first polygon of square has three corners, the second one four.
const (
	one    = "SOUP\x01\x00\x00\x00"
	tri    = "\x03\x01\x00\x00\x02\x00\x00\x03\x00\x00\xff\xff\x1f\x00\x01\x00\x00\x00\x01\x04\x03\x02\x00\x00\x00\xfe\xff\x1f"
	square = "SOUP\x02\x00\x00\x00" + tri + "\x04" + nine + nine + nine + nine
	nine   = "\x07\x00\x00\x08\x00\x00\x09\x00\x00"
)

// P3.3: polygons, whose numbers have the least byte first, and their places.
func TestP3_3Polygons(t *testing.T) {
	first := poly(8, 1, 2, 3, 2097151, 256, 65536, 0x020304, 0, 2097150)
	reads(t, "SOUP\x00\x00\x00\x00")
	reads(t, one+tri, first)
	reads(t, square, first, poly(36, 7, 8, 9, 7, 8, 9, 7, 8, 9, 7, 8, 9))
}

// P3.3: the first four bytes alone make the form; a part of them, or others in front of them, do not.
func TestP3_3Start(t *testing.T) {
	fails(t, "SOUP\nv 1 2 3\n", 4, api.ErrMany)
	fails(t, "SOUP#", 5, api.ErrShort)
	for _, s := range []string{"S", "SO", "SOU", "SOUp", "SOU\x00", "soup", "SOU P", "\ufeffSOUP"} {
		fails(t, s, 1, api.ErrSyntax)
		fails(t, s+"\x00\x00\x00\x00", 1, api.ErrSyntax)
	}
	for _, s := range []string{" SOUP\x00\x00\x00\x00", "\tSOUP", "\rSOUP"} {
		fails(t, s, 1, api.ErrSyntax)
	}
	fails(t, "\nSOUP\x00\x00\x00\x00", 2, api.ErrSyntax)
	reads(t, "#SOUP\x00\x00\x00\x00")
}

// P3.3: the number of polygons.
func TestP3_3Count(t *testing.T) {
	for _, s := range []string{"\x01\x00\x01\x00", "\x00\x00\x02\x00", "\x00\x00\x00\x01", "\x00\x00\x00\x80", "\xff\xff\xff\xff"} {
		fails(t, "SOUP"+s, 4, api.ErrMany)
		fails(t, "SOUP"+s+tri, 4, api.ErrMany)
	}
	full := "SOUP\x00\x00\x01\x00" + strings.Repeat(tri, api.MaxPolys)
	countsPolys(t, full, 8, len(tri))
	fails(t, full+tri, len(full), api.ErrForm)
	fails(t, full[:len(full)-1], len(full)-1, api.ErrShort)
	fails(t, "SOUP\x01\x00\x01\x00"+full[8:]+tri, 4, api.ErrMany)
	fails(t, "SOUP\xff\xff\x00\x00"+full[8:], len(full)-len(tri), api.ErrForm)
}

// P3.3: the numbers of corners, of the first polygon and of a later one.
func TestP3_3Sides(t *testing.T) {
	for sides := range 256 {
		want := api.OK
		switch {
		case sides < 3:
			want = api.ErrNumber
		case sides > 64:
			want = api.ErrMany
		}
		p := string([]byte{byte(sides)}) + strings.Repeat(nine, sides)
		if want != api.OK {
			fails(t, one+p, 8, want)
			fails(t, one+p[:1], 8, want)
			fails(t, "SOUP\x02\x00\x00\x00"+tri+p, 8+len(tri), want)
			continue
		}
		polygon := poly(8)
		for range sides {
			polygon.Corners = append(polygon.Corners, api.Point{X: 7, Y: 8, Z: 9})
		}
		reads(t, one+p, polygon)
		fails(t, one+p+"\x00", 8+len(p), api.ErrForm)
		fails(t, one+p[:len(p)-1], 8+len(p)-1, api.ErrShort)
	}
}

// P3.3: coordinates at the end of the range, at each place.
func TestP3_3Coordinates(t *testing.T) {
	for at := range 9 {
		place := 9 + 3*at
		for _, x := range []struct {
			bytes string
			kind  api.Errno
		}{
			{"\x00\x00\x00", api.OK}, {"\xff\xff\x1f", api.OK}, {"\x00\x00\x20", api.ErrRange}, {"\x01\x00\x20", api.ErrRange},
			{"\x00\x00\x40", api.ErrRange}, {"\x00\x00\x80", api.ErrRange}, {"\xff\xff\xff", api.ErrRange},
		} {
			s := one + "\x03" + strings.Repeat(nine, 3)
			s = s[:place] + x.bytes + s[place+3:]
			if x.kind == api.OK {
				coordinates := []int{7, 8, 9, 7, 8, 9, 7, 8, 9}
				coordinates[at] = int(x.bytes[0]) | int(x.bytes[1])<<8 | int(x.bytes[2])<<16
				reads(t, s, poly(8, coordinates...))
				continue
			}
			fails(t, s, place, x.kind)
			fails(t, s+"x", place, x.kind)
			fails(t, s[:place+3], place, x.kind)
			fails(t, s[:place+2], place+2, api.ErrShort) // the number is not known, wherever its bytes point to
		}
	}
}

// P3.3: a string that ends before, within or behind any number.
func TestP3_3Short(t *testing.T) {
	for size := 4; size < len(square); size++ {
		fails(t, square[:size], size, api.ErrShort)
	}
	for size := range 4 {
		fails(t, "SOUP\xff\xff\xff\xff"[:4+size], 4+size, api.ErrShort)
	}
}

// P3.3: bytes behind the last polygon.
func TestP3_3Form(t *testing.T) {
	for _, s := range []string{"\x00", "\n", " ", "SOUP", tri, strings.Repeat("\xff", 1000)} {
		fails(t, "SOUP\x00\x00\x00\x00"+s, 8, api.ErrForm)
		fails(t, one+tri+s, 8+len(tri), api.ErrForm)
		fails(t, square+s, len(square), api.ErrForm)
	}
}

// P3.3: of several errors, the first number decides, and bytes behind the last polygon come last.
func TestP3_3FirstError(t *testing.T) {
	bad := "\x03\x00\x00\x20\xff\xff\xff"
	fails(t, one+bad, 9, api.ErrRange)
	fails(t, "SOUP\x02\x00\x00\x00"+bad+"\x02", 9, api.ErrRange)
	fails(t, "SOUP\x02\x00\x00\x00"+tri+"\x02", 8+len(tri), api.ErrNumber)
	fails(t, "SOUP\x02\x00\x00\x00"+tri+"\x41\xff\xff\xff", 8+len(tri), api.ErrMany)
	fails(t, "SOUP\x01\x00\x01\x00\x02", 4, api.ErrMany)
	fails(t, one+"\x02\xff\xff\xff", 8, api.ErrNumber)
	fails(t, one+"\x03"+nine+nine+"\x07\x00\x00\x08\x00\x20\x09\x00\x00more", 9+18+3, api.ErrRange)
}
