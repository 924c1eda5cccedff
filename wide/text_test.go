package wide_test

import (
	"math/big"
	"strings"
	"testing"

	"lithophane/api"
	"lithophane/wide"
)

// P1.7: Text, also of forms that are not canonical, and around powers of 10.
func TestP1_7Text(t *testing.T) {
	numbers := samples()
	for exponent := range 80 {
		power := new(big.Int).Exp(big.NewInt(10), big.NewInt(int64(exponent)), nil)
		below := new(big.Int).Sub(power, big.NewInt(1))
		numbers = append(numbers, wideOf(power), wideOf(below), wideOf(new(big.Int).Neg(power)))
	}
	for _, a := range numbers {
		for _, x := range forms(a) {
			if s := wide.Text(x); s != bigOf(x).String() {
				t.Errorf("Text: %q, want %v", s, bigOf(x))
			}
		}
	}
}

// P1.7: Parse of texts that denote numbers, leading zeros and -0 among them.
func TestP1_7Parse(t *testing.T) {
	for _, x := range [][2]string{
		{"0", "0"}, {"-0", "0"}, {"00", "0"}, {"-000", "0"}, {"7", "7"}, {"-007", "-7"}, {"0123", "123"}, {"-1", "-1"},
		{"9223372036854775808", "9223372036854775808"}, {"-9223372036854775809", "-9223372036854775809"},
		{"9999999999999999999", "9999999999999999999"}, {"10000000000000000000", "10000000000000000000"},
		{strings.Repeat("0", 40) + "5", "5"}, {"-" + strings.Repeat("0", 40), "0"},
		{"100000000000000000000000000000000000000", "100000000000000000000000000000000000000"},
	} {
		want, _ := new(big.Int).SetString(x[1], 10)
		same(t, "Parse("+x[0]+")", parse(t, x[0]), want)
	}
	if a := parse(t, "-007"); a != (api.Wide{Neg: true, Mag: "\x07"}) {
		t.Errorf("Parse(-007): %v", a)
	}
}

// P1.7: texts that denote no number.
func TestP1_7ParseNoNumber(t *testing.T) {
	for _, s := range []string{"", "-", "--1", "+1", "-+1", "1x", "x1", " 1", "1 ", "- 1", "1-", "1-2", "1.0", "1e5", "0x10", "1_000",
		"/", ":", "1/", "1:", "\x00", "1\x00", "\xff", "\u0661", "\u22121", "\uff11", "\n1", "1\n",
		strings.Repeat("1", 50) + "a", "a" + strings.Repeat("1", 50)} {
		if a, ok := wide.Parse(s); a != (api.Wide{}) || ok {
			t.Errorf("Parse(%q): %v, %v", s, bigOf(a), ok)
		}
	}
}

// P1.7: each byte is a digit, or makes the text denote no number.
func TestP1_7ParseBytes(t *testing.T) {
	for c := range 256 {
		s := "1" + string([]byte{byte(c)}) + "2"
		_, want := new(big.Int).SetString(s, 10)
		if _, ok := wide.Parse(s); ok != want {
			t.Errorf("Parse(%q): %v", s, ok)
		}
	}
}

// P1.10: Parse undoes Text.
func TestP1_10ParseUndoesText(t *testing.T) {
	for _, a := range samples() {
		if b, ok := wide.Parse(wide.Text(a)); b != a || !ok {
			t.Errorf("Parse(Text(%v)): %v, %v", bigOf(a), bigOf(b), ok)
		}
	}
}
