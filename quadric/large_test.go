package quadric_test

import (
	"strings"
	"testing"

	"lithophane/api"
	"lithophane/quadric"
	"lithophane/wide"
)

// P10.4, R5: a list of many triangles, all of which have the corner p, or few.
func TestLargeList(t *testing.T) {
	const count = 200000
	var l []api.Tri
	for i := range count {
		l = append(l, api.Tri{at(0, 0, 0), at(1, 0, i), at(0, 1, 0)}) // with the normal (-i, 0, 1)
	}
	// The sums of i i and of i, for i below count, and count.
	squares, numbers := wide.From((count-1)*count*(2*count-1)/6), wide.From((count-1)*count)
	want := api.Quadric{0: squares, 2: wide.Neg(numbers), 7: wide.From(count)}
	checkAroundLarge(t, l, at(0, 0, 0), want)
	checkAroundLarge(t, l, at(1, 0, 4711), withInts([10]int{0: 4711 * 4711, 2: -2 * 4711, 7: 1}))
	checkAroundLarge(t, l, at(1, 0, count), api.Quadric{})
}

func checkAroundLarge(t *testing.T, l []api.Tri, p api.Point, want api.Quadric) {
	t.Helper()
	if got := quadric.Around(l, p); got != want {
		t.Errorf("Around of %d triangles at %v: %s; want %s", len(l), p, text(got), text(want))
	}
}

// P10.2, P10.3, R5: coefficients of many digits.
func TestLargeCoefficients(t *testing.T) {
	var a, b api.Quadric
	for k := range a {
		a[k] = api.Wide{Neg: k%2 == 0, Mag: strings.Repeat("\xff", 20000+k)}
		b[k] = api.Wide{Neg: k%3 == 0, Mag: "\x01" + strings.Repeat("\x00", 20000+k/2)}
	}
	p := at(-1<<63, 1<<62+12345, 1<<63-1)
	if quadric.Sum(a, b) != refSum(a, b) || quadric.Sum(b, a) != refSum(a, b) {
		t.Error("Sum is wrong")
	}
	if quadric.At(a, p) != refAt(a, p) || quadric.At(b, p) != refAt(b, p) {
		t.Error("At is wrong")
	}
}
