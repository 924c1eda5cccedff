package seal

import "lithophane/api"

// fieldOf returns the field that the edges separate. A vertex is inside if a way to it
// from the vertex 0, 0, 0 has an odd number of them. As each face has an even number,
// all ways say the same, and those along x, then y, then z are enough.
func fieldOf(separating edgeSet, level int) api.Field {
	vertices := cells(level) + 1 // in a row
	in := make([]bool, vertices*vertices*vertices)
	steps := [3]int{1, vertices, vertices * vertices}
	for e := range separating {
		step := steps[e.Axis]
		end := e.X*steps[0] + e.Y*steps[1] + e.Z*steps[2] + step
		if end < step*vertices { // one of these ways leads along it
			in[end] = true
		}
	}
	for _, step := range steps {
		for i := step; i < step*vertices; i++ {
			in[i] = in[i] != in[i-step]
		}
	}
	clearBorder(in, vertices)
	return api.Field{Level: level, In: in}
}

// clearBorder makes the vertices at the border of the grid outside.
func clearBorder(in []bool, vertices int) {
	isBorder := func(i int) bool { return i == 0 || i == vertices-1 }
	for k := range vertices * vertices {
		row := in[k*vertices : (k+1)*vertices]
		if isBorder(k%vertices) || isBorder(k/vertices) {
			clear(row)
		}
		row[0], row[vertices-1] = false, false
	}
}
