package soup

import "lithophane/api"

// Bytes of the numbers of the binary form.
const (
	countBytes      = 4
	sidesBytes      = 1
	coordinateBytes = 3
)

// source is a string of form 3, of which a part has been read.
type source struct {
	bytes string
	read  int // bytes
}

// readBinary returns the polygons of a string of form 3.
func readBinary(s string) []api.Poly {
	in := &source{bytes: s, read: len(binaryStart)}
	var polys []api.Poly
	for range in.count() {
		polys = append(polys, in.poly())
	}
	require(in.read == len(s), in.read, api.ErrForm)
	return polys
}

// count reads the number of polygons.
func (in *source) count() int {
	place := in.read
	n := in.number(countBytes)
	require(n <= api.MaxPolys, place, api.ErrMany)
	return n
}

// poly reads a polygon.
func (in *source) poly() api.Poly {
	place := in.read
	sides := in.number(sidesBytes)
	throw(place, sidesError(sides))
	p := api.Poly{Corners: make([]api.Point, sides), Place: place}
	for i := range p.Corners {
		p.Corners[i] = api.Point{X: in.coordinate(), Y: in.coordinate(), Z: in.coordinate()}
	}
	return p
}

// coordinate reads a coordinate.
func (in *source) coordinate() int {
	place := in.read
	n := in.number(coordinateBytes)
	require(isCoordinate(n), place, api.ErrRange)
	return n
}

// number reads a number of so many bytes.
func (in *source) number(size int) int {
	require(len(in.bytes)-in.read >= size, len(in.bytes), api.ErrShort)
	n := 0
	for i := range size {
		n |= int(in.bytes[in.read+i]) << (8 * i)
	}
	in.read += size
	return n
}

// writeBinary returns the string of form 3 whose polygons are those of l.
func writeBinary(l []api.Poly) string {
	s := appendNumber([]byte(binaryStart), len(l), countBytes)
	for _, p := range l {
		s = appendNumber(s, len(p.Corners), sidesBytes)
		for _, corner := range p.Corners {
			s = appendNumber(s, corner.X, coordinateBytes)
			s = appendNumber(s, corner.Y, coordinateBytes)
			s = appendNumber(s, corner.Z, coordinateBytes)
		}
	}
	return string(s)
}

// appendNumber appends a number of so many bytes.
func appendNumber(s []byte, n, size int) []byte {
	for i := range size {
		s = append(s, byte(n>>(8*i)))
	}
	return s
}
