package arith_test

import (
	"math/big"
	"regexp"
	"strings"
	"testing"

	"junction/api"
	"junction/arith"
)

// P1.4
func TestNumber(t *testing.T) {
	for _, c := range []struct {
		text string
		n    int32
		e    api.Errno
	}{
		{"0", 0, api.OK},
		{"1", 1, api.OK},
		{"-1", -1, api.OK},
		{"10", 10, api.OK},
		{"-90", -90, api.OK},
		{"999999999", 999999999, api.OK},
		{"2147483647", greatest, api.OK},
		{"-2147483648", least, api.OK},
		{"2147483648", 0, api.ErrBig},
		{"-2147483649", 0, api.ErrBig},
		{"9999999999", 0, api.ErrBig},
		{"-9999999999", 0, api.ErrBig},
		{"4294967296", 0, api.ErrBig},
		{"4294967301", 0, api.ErrBig},
		{"-4294967295", 0, api.ErrBig},
		{"18446744073709551616", 0, api.ErrBig},
		{"18446744073709551617", 0, api.ErrBig},
		{"-18446744073709551617", 0, api.ErrBig},
	} {
		if n, e := arith.Number(c.text); n != c.n || e != c.e {
			t.Errorf("Number(%q) = %d, %d, want %d, %d", c.text, n, e, c.n, c.e)
		}
	}
}

// P1.4
func TestNoNumerals(t *testing.T) {
	for _, text := range []string{
		"", "-", "--1", "-0", "00", "07", "-07", "000000000000001", "+1", "+0", " 1", "1 ", "1\n", "1_0", "1-", "1-2", "1.0", "1e3", "0x1", "0b1", "1a", "a", "-a", "-+1",
		"1\x00", "\x001", "1/", "1:", "/", ":", "\xff", "٣", "１", "1٣", "99999999999999999999x", "99999999999999999999 ", "-99999999999999999999-", "0x99999999999999999999",
	} {
		if n, e := arith.Number(text); n != 0 || e != api.ErrNumber {
			t.Errorf("Number(%q) = %d, %d, want ErrNumber", text, n, e)
		}
	}
}

// P1.4: all short texts over the bytes that matter, held against the numeral's form and the number's size.
func TestNumberShortTexts(t *testing.T) {
	form := regexp.MustCompile(`\A(0|-?[1-9][0-9]*)\z`)
	var try func(text string, left int)
	try = func(text string, left int) {
		n, e := arith.Number(text)
		if form.MatchString(text) {
			want, _ := new(big.Int).SetString(text, 10)
			if e != api.OK || int64(n) != want.Int64() {
				t.Errorf("Number(%q) = %d, %d", text, n, e)
			}
		} else if n != 0 || e != api.ErrNumber {
			t.Errorf("Number(%q) = %d, %d, want ErrNumber", text, n, e)
		}
		for _, b := range []string{"0", "1", "5", "9", "-", "+", "_", " ", "\x80"} {
			if left > 0 {
				try(text+b, left-1)
			}
		}
	}
	try("", 5)
}

// P1.4: each byte at each place of a numeral.
func TestNumberEachByte(t *testing.T) {
	for b := range 256 {
		c := string([]byte{byte(b)})
		digit := b >= '0' && b <= '9'
		for _, text := range []string{"1" + c, "12" + c + "3", "-4" + c, "12345678901234567890" + c} {
			if _, e := arith.Number(text); digit == (e == api.ErrNumber) {
				t.Errorf("Number(%q): %d", text, e)
			}
		}
		_, e := arith.Number(c + "5")
		if fits := b >= '1' && b <= '9' || b == '-'; fits != (e == api.OK) {
			t.Errorf("Number(%q): %d", c+"5", e)
		}
	}
}

// P1.4: a text may have any length.
func TestNumberLongTexts(t *testing.T) {
	long := strings.Repeat("8", 1<<20)
	zeros := strings.Repeat("0", 1<<20)
	for text, want := range map[string]api.Errno{
		long: api.ErrBig, "-" + long: api.ErrBig, "1" + zeros: api.ErrBig, "-1" + zeros: api.ErrBig,
		long + "x": api.ErrNumber, long + "-": api.ErrNumber, "0" + long: api.ErrNumber, "-0" + long: api.ErrNumber, zeros: api.ErrNumber, zeros + "1": api.ErrNumber, "+" + long: api.ErrNumber,
		strings.Repeat("-", 1<<20): api.ErrNumber, strings.Repeat(" ", 1<<20) + "1": api.ErrNumber,
	} {
		if n, e := arith.Number(text); n != 0 || e != want {
			t.Errorf("a text of %d bytes from %q on: %d, %d, want %d", len(text), text[:3], n, e, want)
		}
	}
}

// P1.4
func TestText(t *testing.T) {
	for n, want := range map[int32]string{0: "0", 7: "7", -7: "-7", -10: "-10", 100: "100", 1000000: "1000000", greatest: "2147483647", least: "-2147483648"} {
		if text := arith.Text(n); text != want {
			t.Errorf("Text(%d) = %q", n, text)
		}
	}
}

// P1.4: Number(Text(n)) is n.
func TestTextAndBack(t *testing.T) {
	words := append([]int32{}, edgeWords...)
	for i := range int32(32) {
		words = append(words, 1<<i, -1<<i, 1<<i-1, 1-1<<i)
	}
	for n, i := int32(1), 0; i < 10000; i++ {
		n = n*1664525 + 1013904223
		words = append(words, n, n>>16)
	}
	for _, n := range words {
		text := arith.Text(n)
		if text != big.NewInt(int64(n)).String() {
			t.Errorf("Text(%d) = %q", n, text)
		}
		if back, e := arith.Number(text); back != n || e != api.OK {
			t.Errorf("Number(Text(%d)) = %d, %d", n, back, e)
		}
	}
}
