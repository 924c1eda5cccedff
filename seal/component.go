package seal

import "lithophane/api"

// components takes all faces out of the set, and returns those that are connected
// together, in the order of their least faces; the first face of each is its least.
func components(left faceSet) [][]api.Face {
	var all [][]api.Face
	for _, least := range left.ordered() {
		if left.contains(least) {
			all = append(all, takeComponent(left, least))
		}
	}
	return all
}

// takeComponent takes the first face and all that are connected with it out of the
// set, and returns them, the first one in front.
func takeComponent(left faceSet, first api.Face) []api.Face {
	var component []api.Face
	take := func(f api.Face) {
		if left.contains(f) {
			left.toggle(f)
			component = append(component, f)
		}
	}
	take(first)
	for i := 0; i < len(component); i++ { // it grows meanwhile
		for _, cell := range cellsOf(component[i]) {
			for _, f := range facesOfCell(cell) {
				take(f)
			}
		}
	}
	return component
}
