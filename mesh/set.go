package mesh

import (
	"maps"
	"slices"
)

// set is a set of keys: corners, or edges.
type set[K comparable] map[K]struct{}

// add adds a key, and reports whether it is new.
func (s set[K]) add(key K) bool {
	before := len(s)
	s[key] = struct{}{}
	return len(s) > before
}

// ordered returns the keys in an order that tells all of them apart.
func (s set[K]) ordered(compare func(a, b K) int) []K {
	return slices.SortedFunc(maps.Keys(s), compare)
}
