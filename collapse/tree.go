package collapse

import (
	"cmp"
	"iter"
	"slices"

	"lithophane/api"
)

// box is the set of points whose coordinates are from least to most; the zero box
// is empty.
type box struct {
	least, most [3]int
	some        bool
}

// boxOf returns the least box around t.
func boxOf(t api.Tri) box {
	a, b, c := t[0], t[1], t[2]
	return box{
		least: [3]int{min(a.X, b.X, c.X), min(a.Y, b.Y, c.Y), min(a.Z, b.Z, c.Z)},
		most:  [3]int{max(a.X, b.X, c.X), max(a.Y, b.Y, c.Y), max(a.Z, b.Z, c.Z)},
		some:  true,
	}
}

// with returns the least box that contains b and c.
func (b box) with(c box) box {
	switch {
	case !b.some:
		return c
	case !c.some:
		return b
	}
	for i := range 3 {
		b.least[i], b.most[i] = min(b.least[i], c.least[i]), max(b.most[i], c.most[i])
	}
	return b
}

// touches reports whether b and c have a common point.
func (b box) touches(c box) bool {
	for i := range 3 {
		if b.most[i] < c.least[i] || c.most[i] < b.least[i] {
			return false
		}
	}
	return b.some && c.some
}

// widest returns the axis along which b is longest.
func (b box) widest() int {
	axis := 0
	for i := range 3 {
		if b.length(i) > b.length(axis) {
			axis = i
		}
	}
	return axis
}

// length does not overflow, as it has no sign.
func (b box) length(axis int) uint { return uint(b.most[axis]) - uint(b.least[axis]) }

// tree finds the triangles in a place: it consists of boxes, each of which contains
// the two below it, down to those of the triangles.
type tree struct {
	boxes   []box // the first one is not used; below box n are the boxes 2n and 2n+1
	numbers []int // of the triangles, in the order of their boxes
	places  []int // of the boxes, by the numbers of the triangles
}

// newTree returns the tree of a list.
func newTree(l []api.Tri) *tree {
	leaves := 1
	for leaves < len(l) {
		leaves *= 2
	}
	t := &tree{make([]box, 2*leaves), make([]int, len(l)), make([]int, len(l))}
	boxes := make([]box, len(l))
	for i := range l {
		t.numbers[i], boxes[i] = i, boxOf(l[i])
	}
	divide(t.numbers, boxes, leaves)
	for place, i := range t.numbers {
		t.places[i] = leaves + place
		t.boxes[leaves+place] = boxes[i]
	}
	for n := leaves - 1; n > 0; n-- {
		t.boxes[n] = t.boxes[2*n].with(t.boxes[2*n+1])
	}
	return t
}

// divide orders the numbers of boxes such that those in the same half, and in the
// same half of it, and so on, are near to each other, if there are so many leaves.
func divide(numbers []int, boxes []box, leaves int) {
	if len(numbers) < 2 {
		return
	}
	half := leaves / 2
	if len(numbers) <= half {
		divide(numbers, boxes, half)
		return
	}
	var all box
	for _, i := range numbers {
		all = all.with(boxes[i])
	}
	axis := all.widest()
	slices.SortFunc(numbers, func(i, j int) int { return cmp.Compare(boxes[i].least[axis], boxes[j].least[axis]) })
	divide(numbers[:half], boxes, half)
	divide(numbers[half:], boxes, half)
}

// set changes the box of a triangle.
func (t *tree) set(number int, b box) {
	n := t.places[number]
	t.boxes[n] = b
	for n /= 2; n > 0; n /= 2 {
		t.boxes[n] = t.boxes[2*n].with(t.boxes[2*n+1])
	}
}

// near visits the triangles whose boxes touch b.
func (t *tree) near(b box) iter.Seq[int] {
	return func(yield func(int) bool) { t.visit(1, b, yield) }
}

// visit visits those below box n, and reports whether all were visited.
func (t *tree) visit(n int, b box, yield func(int) bool) bool {
	leaves := len(t.boxes) / 2
	switch {
	case !t.boxes[n].touches(b):
		return true
	case n >= leaves:
		return yield(t.numbers[n-leaves])
	}
	return t.visit(2*n, b, yield) && t.visit(2*n+1, b, yield)
}
