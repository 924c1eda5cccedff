package heal_test

import (
	"math"
	"testing"

	"lithophane/api"
)

// The document's examples.
func TestP5_2Examples(t *testing.T) {
	heals{
		{"abcd 1", "abc acd / "},
		{"aabca 1, bca 2, cba 3", "abc / 2 twice, 3 turned"},
		{"aeb 4, ab 5", " / 4 flat, 5 flat"},
	}.check(t)
}

// P5.1: polygons whose fan is empty have one fault.
func TestP5_1EmptyFans(t *testing.T) {
	heals{
		{" 1", " / 1 flat"},
		{"a 2", " / 2 flat"},
		{"ab 3", " / 3 flat"},
		{"aa 1", " / 1 flat"},
		{"aaa 1", " / 1 flat"},
		{"aaaaaaa 1", " / 1 flat"},
		{"aba 1", " / 1 flat"},
		{"aab 1", " / 1 flat"},
		{"abb 1", " / 1 flat"},
		{"aabbaa 1", " / 1 flat"},
		{"abbbbb 1", " / 1 flat"},
		{" 1, b 2, abc 3, cc 4, bb 5, aba 6", "abc / 1 flat, 2 flat, 4 flat, 5 flat, 6 flat"},
	}.check(t)
}

// P5.1: equal corners in a row, and last ones that are equal to the first one, are left out.
func TestP5_1Cleaning(t *testing.T) {
	heals{
		{"aabcd 1", "abc acd / "},
		{"aaaabcd 1", "abc acd / "},
		{"abbcd 1", "abc acd / "},
		{"abcccccd 1", "abc acd / "},
		{"abcdd 1", "abc acd / "},
		{"abcdddd 1", "abc acd / "},
		{"abcda 1", "abc acd / "},
		{"abcdaaaa 1", "abc acd / "},
		{"aaabbcdddaa 1", "abc acd / "},
		{"abca 1", "abc / "},
		{"bbccaabb 1", "bca / "},
	}.check(t)
}

// P5.1: corners that are equal, but neither in a row nor the first and the last, stay.
func TestP5_1EqualCorners(t *testing.T) {
	heals{
		{"abab 1", " / 1 flat, 1 flat"},
		{"ababa 1", " / 1 flat, 1 flat"},
		{"abcab 1", "abc / 1 flat, 1 flat"},
		{"abac 1", " / 1 flat, 1 flat"},
		{"abacd 1", "acd / 1 flat, 1 flat"},
		{"abcb 1", "abc / 1 turned"},
		{"abcbb 1", "abc / 1 turned"},
		{"abcbca 1", "abc / 1 turned, 1 twice"},
	}.check(t)
}

// P5.1: the triangles of a fan have the first corner in front, and come in order,
// the polygons in theirs.
func TestP5_1Fans(t *testing.T) {
	heals{
		{"abc 1", "abc / "},
		{"cab 1", "cab / "},
		{"bac 1", "bac / "},
		{"dcba 1", "dcb dba / "},
		{"gabcdh 1", "gab gbc gcd gdh / "},
		{"hdcbag 1", "hdc hcb hba hag / "},
		{"cdab 7, gba 7, abh 7", "cda cab gba abh / "},
		{"abcd 1, bcda 2", "abc acd bcd bda / "},
	}.check(t)
}

// P5.2: flat triangles are left out, also among others, each time that they come.
func TestP5_2Flat(t *testing.T) {
	heals{
		{"aebc 1", "abc / 1 flat"},
		{"aebf 1", " / 1 flat, 1 flat"},
		{"caebf 1", "cae ceb cbf / "},
		{"afcbe 1", "afc acb / 1 flat"},
		{"abcea 1", "abc ace / "},
		{"gaebh 1", "gae geb gbh / "},
		{"aebfcd 1", "afc acd / 1 flat, 1 flat"},
		{"abecfd 1", "aec acf afd / 1 flat"},
		{"aeb 1, aeb 2, eba 3, bae 4, abe 5, bea 6, eab 7", " / 1 flat, 2 flat, 3 flat, 4 flat, 5 flat, 6 flat, 7 flat"},
		{"aebfe 1, fbea 1", " / 1 flat, 1 flat, 1 flat, 1 flat, 1 flat"},
	}.check(t)
}

// P5.2: triangles with the same corners in the same cyclic order are left out.
func TestP5_2Twice(t *testing.T) {
	heals{
		{"abc 1, abc 2", "abc / 2 twice"},
		{"abc 1, bca 2", "abc / 2 twice"},
		{"abc 1, cab 2", "abc / 2 twice"},
		{"bca 1, abc 2, cab 3, bca 4", "bca / 2 twice, 3 twice, 4 twice"},
		{"cba 1, acb 2, bac 3, cba 4", "cba / 2 twice, 3 twice, 4 twice"},
		{"abcdbc 1", "abc acd adb / 1 twice"},
		{"abcd 1, cda 2, bca 3, dac 4", "abc acd / 2 twice, 3 twice, 4 twice"},
		{"abc 1, gah 2, abcd 3, hga 4", "abc gah acd / 3 twice, 4 twice"},
	}.check(t)
}

// P5.2: triangles with the same corners in the other cyclic order are left out.
func TestP5_2Turned(t *testing.T) {
	heals{
		{"abc 1, acb 2", "abc / 2 turned"},
		{"abc 1, cba 2", "abc / 2 turned"},
		{"abc 1, bac 2", "abc / 2 turned"},
		{"bca 1, acb 2, cba 3, bac 4", "bca / 2 turned, 3 turned, 4 turned"},
		{"cba 1, abc 2, bca 3, cab 4", "cba / 2 turned, 3 turned, 4 turned"},
		{"abcdcb 1", "abc acd / 1 turned, 1 turned"},
		{"abcd 1, adcb 2", "abc acd / 2 turned, 2 turned"},
		{"abc 1, gah 2, acbd 3, gha 4", "abc gah abd / 3 turned, 4 turned"},
	}.check(t)
}

// P5.2: only triangles that were kept make later ones faulty.
func TestP5_2LeftOut(t *testing.T) {
	heals{
		{"abc 1, cba 2, cba 3, bac 4", "abc / 2 turned, 3 turned, 4 turned"},
		{"abc 1, cba 2, abc 3, bca 4", "abc / 2 turned, 3 twice, 4 twice"},
		{"abc 1, bca 2, cba 3, acb 4, cab 5", "abc / 2 twice, 3 turned, 4 turned, 5 twice"},
		{"aeb 1, bea 2, ab 3, ba 4", " / 1 flat, 2 flat, 3 flat, 4 flat"},
		{"abcbcbcb 1", "abc / 1 turned, 1 twice, 1 turned, 1 twice, 1 turned"},
	}.check(t)
}

// P5.2: triangles with two common corners, or in other planes, are no faults.
func TestP5_2OtherCorners(t *testing.T) {
	heals{
		{"abc 1, abd 2, abg 3, abh 4, bah 5", "abc abd abg abh / 5 turned"},
		{"abc 1, ebc 2, fbc 3, aec 4", "abc ebc fbc aec / "},
		{"abg 1, bcg 2, cdg 3, dag 4, gab 5, gcb 6", "abg bcg cdg dag / 5 twice, 6 turned"},
	}.check(t)
}

// P5.3: the triangles and the faults come each in their order; faults have the
// places of their polygons, which may be any ints, and come more than once.
func TestP5_3Places(t *testing.T) {
	heals{
		{"aebcdcb 3, cba 1, ef 2, gah 1, hag 2", "abc acd gah / 3 flat, 3 turned, 3 turned, 1 turned, 2 flat, 2 turned"},
		{"cba 5, ab 5, acb 5, abc 5, aeb 5", "cba / 5 flat, 5 twice, 5 turned, 5 flat"},
		{"ab 0, ba 0, abc 0, cba 0", "abc / 0 flat, 0 flat, 0 turned"},
		{"ab -1, abc -2, bca -3, cba -4", "abc / -1 flat, -3 twice, -4 turned"},
		{"a 9223372036854775807, b -9223372036854775808, abc 4, cba -9223372036854775808, cab 9223372036854775807",
			"abc / 9223372036854775807 flat, -9223372036854775808 flat, -9223372036854775808 turned, 9223372036854775807 twice"},
	}.check(t)
}

// P5.3: coordinates are arbitrary; nothing wraps around.
func TestP5_3Coordinates(t *testing.T) {
	const least, most, root = math.MinInt, math.MaxInt, 1 << 32
	low, middle, high := at(least, least, least), at(-1, -1, -1), at(most, most, most)
	for _, flat := range []api.Tri{
		{low, middle, high},
		{high, low, middle},
		{at(least, 0, 0), at(0, 0, 0), at(most, 0, 0)},
		{at(0, 0, least), at(0, 0, most), at(0, 0, least+1)},
		{at(least, most, 5), at(-1, 0, 5), at(most, least, 5)},
	} {
		checkResults(t, each([]api.Tri{flat, turned(flat)}), nil, []api.Fault{{Place: 0, Kind: api.ErrFlat}, {Place: 1, Kind: api.ErrFlat}})
	}
	for _, s := range []api.Tri{
		{at(0, 0, 0), at(root, 0, 0), at(0, root, 0)}, // the product is 0 modulo 2^64
		{at(0, 0, 0), at(least, 0, 0), at(0, least, 0)},
		{at(least, 0, 0), at(most, 0, 0), at(0, 1, 0)},
		{at(least, least, 0), at(0, 0, 0), at(most, most-1, 0)},
		{low, at(0, 0, 1), high},
		{high, at(least, most, least), at(most, least, least)},
	} {
		want := []api.Fault{{Place: 1, Kind: api.ErrTwice}, {Place: 2, Kind: api.ErrTurned}, {Place: 3, Kind: api.ErrTwice}, {Place: 4, Kind: api.ErrTurned}}
		l := each([]api.Tri{s, rotated(s), turned(s), rotated(rotated(s)), rotated(turned(s))})
		checkResults(t, l, []api.Tri{s}, want)
	}
}

// P5.1 to P5.3: all results are those of the reference, for lists with faults of all kinds.
func TestP5_3Reference(t *testing.T) {
	seen := map[api.Errno]int{}
	forLists(func(l []api.Poly) {
		triangles, faults := refHeal(l)
		checkResults(t, l, triangles, faults)
		seen[api.OK] += len(triangles)
		for _, f := range faults {
			seen[f.Kind]++
		}
	})
	if min(seen[api.OK], seen[api.ErrFlat], seen[api.ErrTwice], seen[api.ErrTurned]) < 2000 {
		t.Errorf("kinds: %v", seen)
	}
}
