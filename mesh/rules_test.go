package mesh_test

import (
	"reflect"
	"slices"
	"testing"

	"lithophane/api"
	"lithophane/mesh"
)

// results are those of all functions for a list; nil slices and empty ones are made equal.
type results struct {
	rotated     []api.Tri
	canon       []api.Tri
	same        bool
	corners     []api.Point
	border      [][2]api.Point
	check, open api.Errno
	parts       [][]api.Tri
	euler       int
	volume      api.Wide
}

func resultsFor(l []api.Tri) results {
	r := results{
		canon: mesh.Canon(l), same: mesh.Same(l, l), corners: mesh.Corners(l), border: mesh.Border(l),
		check: mesh.Check(l), open: mesh.CheckOpen(l), parts: mesh.Parts(l), euler: mesh.Euler(l), volume: mesh.Volume6(l),
	}
	for _, t := range l {
		r.rotated = append(r.rotated, mesh.Rotate(t))
	}
	return r.copied()
}

// copied returns the results in memory of their own.
func (r results) copied() results {
	r.rotated = append([]api.Tri{}, r.rotated...)
	r.canon = append([]api.Tri{}, r.canon...)
	r.corners = append([]api.Point{}, r.corners...)
	r.border = append([][2]api.Point{}, r.border...)
	parts := [][]api.Tri{}
	for _, part := range r.parts {
		parts = append(parts, append([]api.Tri{}, part...))
	}
	r.parts = parts
	return r
}

// R1: nil and empty lists are the same to all functions: closed, without anything.
func TestR1NilAndEmpty(t *testing.T) {
	for _, l := range [][]api.Tri{nil, {}, tetrahedron()[:0]} {
		if len(mesh.Canon(l)) != 0 || len(mesh.Corners(l)) != 0 || len(mesh.Border(l)) != 0 || len(mesh.Parts(l)) != 0 {
			t.Error("a result is not empty")
		}
		if mesh.Check(l) != api.OK || mesh.CheckOpen(l) != api.OK || mesh.Euler(l) != 0 || mesh.Volume6(l) != (api.Wide{}) {
			t.Error("a result is not 0")
		}
		for _, m := range [][]api.Tri{nil, {}} {
			if !mesh.Same(l, m) {
				t.Error("Same of empty lists: false")
			}
		}
	}
}

// R3: arguments, and what lies behind them, are unchanged after all calls.
func TestR3Arguments(t *testing.T) {
	for _, l := range kinds() {
		memory := append(slices.Clone(l), tris(at(9, 9, 9), at(8, 8, 8), at(7, 7, 7))...)
		before := slices.Clone(memory)
		resultsFor(memory[:len(l)])
		mesh.Same(memory[:len(l)], memory[len(l):])
		wantsAll(t, "argument", l, memory, before)
	}
}

// R3: results share no memory with arguments, nor with results of other calls.
func TestR3Results(t *testing.T) {
	for _, l := range kinds() {
		argument := slices.Clone(l)
		before := resultsFor(argument)
		spoil(mesh.Canon(argument))
		spoil(mesh.Corners(argument))
		spoil(mesh.Border(argument))
		for _, part := range mesh.Parts(argument) {
			spoil(part)
		}
		spoil(mesh.Parts(argument))
		wantsAll(t, "argument", l, argument, l)
		if after := resultsFor(argument); !reflect.DeepEqual(after, before) {
			t.Errorf("results for %s: %v, then %v", brief(l), before, after)
		}
	}
}

// spoil overwrites all elements, and those that fit behind them.
func spoil[T any](l []T) { clear(l[:cap(l)]) }

// R3: the parts of one result share no memory.
func TestR3Parts(t *testing.T) {
	for _, l := range kinds() {
		want := mesh.Parts(l)
		for i := range want {
			parts := mesh.Parts(l)
			spoil(parts[i])
			for j, part := range parts {
				if j != i {
					wantsAll(t, "a part beside a changed one", l, part, want[j])
				}
			}
		}
	}
}

// P1, R4: all functions end for all lists, and the same call returns the same again.
func TestR4SameAgain(t *testing.T) {
	for _, l := range kinds() {
		want := resultsFor(l)
		for range 3 {
			if got := resultsFor(slices.Clone(l)); !reflect.DeepEqual(got, want) {
				t.Errorf("results for %s: %v, then %v", brief(l), want, got)
			}
		}
	}
}
