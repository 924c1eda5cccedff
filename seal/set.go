package seal

import (
	"math/bits"

	"lithophane/api"
)

// edgeSet is a set of edges.
type edgeSet map[api.Edge]struct{}

// toggle adds an edge, or deletes it if it is there.
func (s edgeSet) toggle(e api.Edge) {
	if _, found := s[e]; found {
		delete(s, e)
	} else {
		s[e] = struct{}{}
	}
}

// faceSet is a set of faces. There may be about as many of them as there are in the
// grid, and each is asked for many times; so each has a bit.
type faceSet struct {
	vertices int // in a row
	words    []uint64
}

func newFaceSet(level int) faceSet {
	s := faceSet{vertices: cells(level) + 1}
	s.words = make([]uint64, 3*s.vertices*s.vertices*s.vertices/64+1)
	return s
}

// number returns the number of a face. Faces and their numbers have the same order.
func (s faceSet) number(f api.Face) int {
	return ((f.Axis*s.vertices+f.Z)*s.vertices+f.Y)*s.vertices + f.X
}

// face returns the face with the number.
func (s faceSet) face(number int) api.Face {
	v := s.vertices
	return api.Face{Axis: number / (v * v * v), Z: number / (v * v) % v, Y: number / v % v, X: number % v}
}

// toggle adds a face, or deletes it if it is there.
func (s faceSet) toggle(f api.Face) {
	i := s.number(f)
	s.words[i/64] ^= 1 << (i % 64)
}

func (s faceSet) contains(f api.Face) bool {
	i := s.number(f)
	return s.words[i/64]>>(i%64)&1 == 1
}

// ordered returns the faces in order.
func (s faceSet) ordered() []api.Face {
	var faces []api.Face
	for i, word := range s.words {
		for ; word != 0; word &= word - 1 {
			faces = append(faces, s.face(64*i+bits.TrailingZeros64(word)))
		}
	}
	return faces
}
