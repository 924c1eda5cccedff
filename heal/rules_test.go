package heal_test

import (
	"reflect"
	"slices"
	"testing"

	"lithophane/api"
	"lithophane/heal"
)

// lists are lists of all kinds.
func lists() [][]api.Poly {
	all := [][]api.Poly{
		nil,
		polygons(" 1"),
		polygons("abcd 1"),
		polygons("aabca 1, bca 2, cba 3"),
		polygons("aaebbcdaa 1, cca 2, ddabba 3, hgaab 4, bgahb 5"),
	}
	forLists(func(l []api.Poly) {
		if len(l) > 9 {
			all = append(all, l)
		}
	})
	return all
}

// R1: nil and empty lists, of polygons and of corners, are the same.
func TestR1NilAndEmpty(t *testing.T) {
	for _, l := range [][]api.Poly{nil, {}, polygons("abc 1")[:0]} {
		checkResults(t, l, nil, nil)
	}
	for _, corners := range [][]api.Point{nil, {}, named("abc")[:0]} {
		checkResults(t, []api.Poly{{Corners: corners, Place: 3}}, nil, []api.Fault{{Place: 3, Kind: api.ErrFlat}})
	}
	checkResults(t, make([]api.Poly, 3), nil, slices.Repeat([]api.Fault{{Kind: api.ErrFlat}}, 3))
}

// R3: arguments, and what lies behind their ends, are unchanged after a call.
func TestR3Arguments(t *testing.T) {
	for _, l := range lists() {
		var memory []api.Point
		list := slices.Clone(l)
		for i, p := range l {
			memory = append(memory, p.Corners...)
			memory = append(memory, at(7, 7, i), at(7, 7, i))
		}
		start := 0
		for i, p := range l {
			list[i].Corners = memory[start : start+len(p.Corners)] // the capacity goes beyond
			start += len(p.Corners) + 2
		}
		list = append(list, polygons("abc 77")...)
		before, beforeMemory := cloned(list), slices.Clone(memory)
		heal.Heal(list[:len(l)])
		if !reflect.DeepEqual(cloned(list), before) || !slices.Equal(memory, beforeMemory) {
			t.Fatalf("Heal of %s: the argument is changed", brief(l))
		}
	}
}

// R3: polygons may have their corners in common memory.
func TestR3CommonMemory(t *testing.T) {
	memory := named("aabbccddaab")
	l := []api.Poly{{Corners: memory, Place: 1}, {Corners: memory[2:9], Place: 2}, {Corners: memory[1:], Place: 3}, {Corners: memory, Place: 4}}
	triangles, faults := refHeal(cloned(l))
	checkResults(t, l, triangles, faults)
}

// R3: results share no memory with arguments, nor with each other, nor with those of other calls.
func TestR3Results(t *testing.T) {
	for _, l := range lists() {
		argument := cloned(l)
		triangles, faults := heal.Heal(argument)
		wantTriangles, wantFaults := slices.Clone(triangles), slices.Clone(faults)
		spoil(triangles)
		if !slices.Equal(faults, wantFaults) {
			t.Fatalf("Heal of %s: the results share memory", brief(l))
		}
		spoil(faults)
		if !reflect.DeepEqual(argument, cloned(l)) {
			t.Fatalf("Heal of %s: a result shares memory with the argument", brief(l))
		}
		checkResults(t, l, wantTriangles, wantFaults)
	}
}

// spoil overwrites all elements, and those that fit behind them.
func spoil[T any](l []T) { clear(l[:cap(l)]) }

// P1, R4: each call ends, and the same call returns the same again; nothing is kept
// from call to call.
func TestR4SameAgain(t *testing.T) {
	all := lists()
	type results struct {
		triangles []api.Tri
		faults    []api.Fault
	}
	var first []results
	for _, l := range all {
		triangles, faults := heal.Heal(l)
		first = append(first, results{triangles, faults})
	}
	for i, l := range slices.Backward(all) {
		checkResults(t, cloned(l), first[i].triangles, first[i].faults)
		checkResults(t, l, first[i].triangles, first[i].faults)
	}
}
