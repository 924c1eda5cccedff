package mesh

import "lithophane/api"

// Parts returns the parts in canonical form, ordered by their first triangles.
func Parts(l []api.Tri) [][]api.Tri {
	triangles := Canon(l)
	firstOf := firstsOfParts(triangles)
	numbers := map[int]int{} // of the parts, by their first triangles
	var parts [][]api.Tri
	for i, t := range triangles {
		first := firstOf(i)
		if first == i {
			numbers[first] = len(parts)
			parts = append(parts, nil)
		}
		n := numbers[first]
		parts[n] = append(parts[n], t)
	}
	return parts
}

// firstsOfParts returns a function that tells, for each of the triangles, which
// are canonical, the first one of its part.
func firstsOfParts(triangles []api.Tri) func(int) int {
	parents := make([]int, len(triangles)) // each is in the same part as its child, and not behind it
	firstOf := func(i int) int {
		for parents[i] != i {
			parents[i] = parents[parents[i]]
			i = parents[i]
		}
		return i
	}
	for i := range triangles {
		parents[i] = i
		if i > 0 && triangles[i] == triangles[i-1] {
			parents[i] = parents[i-1]
		}
	}
	join := func(i, j int) {
		i, j = firstOf(i), firstOf(j)
		parents[max(i, j)] = min(i, j)
	}
	joinNeighbours(triangles, join)
	return firstOf
}

// joinNeighbours calls join for pairs of neighbours, which lead from each triangle
// to all its neighbours. These pairs are few even if many triangles have an edge:
// each is joined with the first one that has the opposite edge.
func joinNeighbours(triangles []api.Tri, join func(i, j int)) {
	firstWith := make(map[edge]int, 3*len(triangles))
	for i, t := range triangles {
		for _, e := range edgesOf(t) {
			if _, found := firstWith[e]; !found {
				firstWith[e] = i
			}
		}
	}
	for i, t := range triangles {
		for _, e := range edgesOf(t) {
			if j, found := firstWith[e.opposite()]; found {
				join(i, j)
			}
		}
	}
}
