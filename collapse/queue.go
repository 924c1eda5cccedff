package collapse

// A queue is a list in which no element comes before the one at half its place, so
// that the first one comes before all others.

// push returns the queue with one more element.
func push[T any](queue []T, element T, before func(a, b T) bool) []T {
	queue = append(queue, element)
	for child := len(queue) - 1; child > 0; {
		parent := (child - 1) / 2
		if !before(queue[child], queue[parent]) {
			break
		}
		queue[child], queue[parent] = queue[parent], queue[child]
		child = parent
	}
	return queue
}

// pop returns the first element of a queue that is not empty, and the others.
func pop[T any](queue []T, before func(a, b T) bool) (T, []T) {
	first, last := queue[0], len(queue)-1
	queue[0] = queue[last]
	queue = queue[:last]
	for parent := 0; ; {
		least := parent
		for child := 2*parent + 1; child <= 2*parent+2 && child < last; child++ {
			if before(queue[child], queue[least]) {
				least = child
			}
		}
		if least == parent {
			return first, queue
		}
		queue[parent], queue[least] = queue[least], queue[parent]
		parent = least
	}
}
