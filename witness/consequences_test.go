package witness_test

import (
	"math/big"
	"slices"
	"testing"

	"lithophane/api"
	"lithophane/exact"
	"lithophane/mesh"
	"lithophane/wide"
	"lithophane/witness"
)

// accepted calls check with claims that Check accepts, and the numbers that it returns.
func accepted(t *testing.T, seed int, check func(g *generator, c claim, number int)) {
	count := 0
	try := func(g *generator, c claim) {
		if number, kind := witness.Check(c.fine, c.coarse, c.moves); kind == api.OK {
			check(g, c, number)
			count++
		}
	}
	forShapes(seed, 8, func(g *generator, name string, l []api.Tri) {
		try(g, simplified(l, len(l)/2))
		try(g, simplified(l, 0))
	})
	g := generator(seed + 1)
	for range 600 {
		try(&g, g.mapped(g.soup(g.corners(spaces()[g.below(4)]))))
	}
	if count < 500 {
		t.Errorf("only %d claims are accepted", count)
	}
}

// P12.3: the point of a triangle with certain weights, and that of its image, are not
// farther from each other than the number says; and the image is a triangle of coarse, or
// has corners of one.
func TestP12_3Distance(t *testing.T) {
	accepted(t, 51, func(g *generator, c claim, number int) {
		images := refImages(c)
		for k, tri := range c.fine {
			if !slices.ContainsFunc(c.coarse, func(other api.Tri) bool { return refHolds(other, images[k]) }) {
				t.Fatalf("%s: the image %v", brief(c), images[k])
			}
			i, j, m := g.below(9), g.below(9), g.below(9)
			checkNear(t, weighted(tri, i, j, m), weighted(images[k], i, j, m), number*(i+j+m))
		}
		for _, tri := range c.coarse {
			if refTimes(images, tri) != 1 {
				t.Fatalf("%s: %v is the image of several", brief(c), tri)
			}
		}
	})
}

// refHolds reports whether all corners of the image are corners of the triangle.
func refHolds(tri, image api.Tri) bool {
	for _, p := range image {
		if !slices.Contains(tri[:], p) {
			return false
		}
	}
	return true
}

// weighted returns the sum of the corners with weights.
func weighted(tri api.Tri, i, j, m int) api.Point {
	a, b, c := tri[0], tri[1], tri[2]
	return at(i*a.X+j*b.X+m*c.X, i*a.Y+j*b.Y+m*c.Y, i*a.Z+j*b.Z+m*c.Z)
}

func checkNear(t *testing.T, p, q api.Point, most int) {
	t.Helper()
	square := new(big.Int).Mul(big.NewInt(int64(most)), big.NewInt(int64(most)))
	if wide.Cmp(exact.Dist2(p, q), wideOf(square)) > 0 {
		t.Fatalf("%v and %v are farther than %d from each other", p, q, most)
	}
}

func wideOf(n *big.Int) api.Wide {
	number, _ := wide.Parse(n.String())
	return number
}

// P12.3: all corners of coarse are corners of fine; it joins no border corners anew, and
// at each one the fans lead from the same edges to the same ones.
func TestP12_3Kept(t *testing.T) {
	accepted(t, 52, func(g *generator, c claim, number int) {
		for _, p := range mesh.Corners(c.coarse) {
			if !refHasCorner(c.fine, p) {
				t.Fatalf("%s: %v is no corner of fine", brief(c), p)
			}
		}
		if refJoinsBorder(c) || refFansDiffer(c) || !slices.Equal(mesh.Border(c.fine), mesh.Border(c.coarse)) {
			t.Fatalf("%s: the border is not kept", brief(c))
		}
	})
}

// P12.3: if fine is a part of a closed surface, and coarse takes its place, the result is
// closed.
func TestP12_3Closed(t *testing.T) {
	changed := 0
	forShapes(53, 30, func(g *generator, name string, whole []api.Tri) {
		if mesh.Check(whole) != api.OK {
			return
		}
		whole = g.shuffled(whole)
		k := len(whole) - g.below(len(whole)/2+1)
		part, rest := whole[:k], whole[k:]
		c := simplified(part, 0)
		if _, kind := witness.Check(c.fine, c.coarse, c.moves); kind != api.OK {
			t.Fatalf("Check of %s: %v", brief(c), kind)
		}
		if kind := mesh.Check(append(slices.Clone(rest), c.coarse...)); kind != api.OK {
			t.Fatalf("%s within %s: %v", brief(c), brief(whole), kind)
		}
		if len(c.moves) > 0 && len(rest) > 0 {
			changed++
		}
	})
	if changed < 30 {
		t.Errorf("only %d surfaces", changed)
	}
}

// P12.3: any accepted claim about a part of a closed surface; of claims that are not
// accepted for their borders alone, some leave it not closed.
func TestP12_3ClosedMany(t *testing.T) {
	g := generator(54)
	closed, broken := 0, 0
	for closed < 300 || broken < 5 {
		whole := g.closedSoup()
		if whole == nil {
			continue
		}
		k := len(whole) - g.below(len(whole)/2+1)
		c := g.mapped(whole[:k])
		result := mesh.Check(append(slices.Clone(whole[k:]), c.coarse...))
		_, kind := witness.Check(c.fine, c.coarse, c.moves)
		if kind == api.OK && result != api.OK {
			t.Fatalf("%s within %s: %v", brief(c), brief(whole), result)
		}
		if kind == api.OK && len(c.moves) > 0 {
			closed++
		}
		if kind == api.ErrBorder && result != api.OK {
			broken++
		}
	}
}

// closedSoup returns a closed list, if it finds one.
func (g *generator) closedSoup() []api.Tri {
	corners := g.corners([]int{-9, -4, 0, 3, 8})
	l := tris(corners[0], corners[1], corners[2], corners[0], corners[2], corners[1])
	for range 1 + g.below(9) { // a triangle is divided, or a corner moved into another one
		k := g.below(len(l))
		p := at(g.between(50), g.between(50), g.between(50))
		if g.below(4) > 0 {
			l = append(without(l, k), wheel(p, l[k][:]...)...)
		} else {
			l = collapsed(l, move(l[k][0], l[k][1]))
		}
		if mesh.Check(l) != api.OK || len(l) == 0 {
			return nil
		}
	}
	return g.shuffled(l)
}
