package lex_test

import (
	"math/rand"
	"strings"
	"testing"
	"time"

	"junction/api"
	"junction/lex"
)

// P2.5
func TestNumber(t *testing.T) {
	zeros := strings.Repeat("0", 100000)
	for _, c := range []struct {
		word string
		want int32
	}{
		{"0", 0}, {"12", 12}, {"90", 90}, {"007", 7}, {"1_000", 1000}, {"1_2_3", 123}, {"0_0", 0}, {"2147483647", 2147483647}, {"2_147_483_647", 2147483647}, {zeros + "9", 9},
		{"0x0", 0}, {"0x1F", 31}, {"0xff_ff", 65535}, {"0xaBcDeF", 0xabcdef}, {"0xA_b", 171}, {"0x7fffffff", 2147483647}, {"0x" + zeros + "7FFF_FFFF", 2147483647},
		{"90s", 90}, {"2m", 120}, {"1h", 3600}, {"1h30m", 5400}, {"1h0m5s", 3605}, {"1h5s", 3605}, {"3m4s", 184}, {"100m100s", 6100}, {"0h0m0s", 0}, {"0s", 0}, {zeros + "1h", 3600}, {"35791394m7s", 2147483647}, {"596523h14m7s", 2147483647}, {"0h0m2147483647s", 2147483647},
	} {
		if n, e := lex.Number(c.word); n != c.want || e != api.OK {
			t.Errorf("Number(%.40q) = %d, %d, want %d", c.word, n, e, c.want)
		}
	}
}

// P2.5
func TestNumberForms(t *testing.T) {
	for _, word := range []string{
		"", "1__0", "1_", "_1", "_", "1_0_", "0_x1", "00x1",
		"0x", "0X1", "0x_1", "0x1_", "0x1__1", "0xg", "0x1s", "0xx1", "0x 1", "1x1",
		"30s1m", "1m30", "1_0s", "1s_", "1m_5s", "1h30", "1h1h", "1m1m", "1s1s", "1m1h", "1s1h", "h", "s1", "1hm", "1h s", "1hh", "1H", "1S", "1d", "1ms", "1_h",
		"-5", "+5", " 5", "5 ", "5\n", "x", "5a", "a5", "1.5", "1e3", "1,0", "5#", "12\x00", "\xb2", "1\xff",
		"99999999999999999999_", "99999999999999999999x", "0xfffffffffff_", "99999999999999999999h9", "99999999999999999999m1h",
	} {
		if n, e := lex.Number(word); n != 0 || e != api.ErrForm {
			t.Errorf("Number(%q) = %d, %d, want ErrForm", word, n, e)
		}
	}
}

// P2.5
func TestNumberTooGreat(t *testing.T) {
	for _, word := range []string{
		"2147483648", "2_147_483_648", "4294967295", "4294967296", "4294967297", "9223372036854775808", "18446744073709551616", "18446744073709551617", strings.Repeat("9", 50000),
		"0x80000000", "0xffffffff", "0x100000000", "0x1_0000_0000_0000_0000", "0x10000000000000001", "0x1" + strings.Repeat("0", 50000),
		"2147483648s", "35791394m8s", "35791395m", "596523h14m8s", "596524h", "596523h15m", "99999999999999999999h", "18446744073709551616h1s", "5124095576030431h", "1h2147483647s", "1h18446744073709551616s", "0h0m4294967296s",
	} {
		if n, e := lex.Number(word); n != 0 || e != api.ErrBig {
			t.Errorf("Number(%.40q) = %d, %d, want ErrBig", word, n, e)
		}
	}
}

// checkNumber holds Number, Scan and KindOf against the model, and so against each other.
func checkNumber(t *testing.T, word string) {
	t.Helper()
	n, e := lex.Number(word)
	want, code := modelNumber(word)
	if n != want || e != code {
		t.Errorf("Number(%q) = %d, %d, want %d, %d", word, n, e, want, code)
	}
	if isOne := lex.KindOf(word) == api.TkNumber; isOne != (code == api.OK) {
		t.Errorf("KindOf(%q) = %d, and Number's error is %d", word, lex.KindOf(word), code)
	}
}

// P2.5
func TestNumberShortTexts(t *testing.T) {
	allTexts(strings.Split("0|8|_|x|h|m|s|b|G|-", "|"), 5, func(word string) { checkNumber(t, word) })
}

// P2.5: numbers about the greatest one, in all forms.
func TestNumberNearTheGreatest(t *testing.T) {
	pieces := strings.Split("0|1|2|35791394|35791395|596523|596524|2147483647|2147483648|7|8|14|h|m|s|_|0x|7fffffff|80000000|ffffffffffffffff|99999999999999999999", "|")
	allTexts(pieces, 3, func(word string) { checkNumber(t, word) })
	r := rand.New(rand.NewSource(25))
	for range 20000 {
		var word strings.Builder
		for range 2 + r.Intn(6) {
			word.WriteString(pieces[r.Intn(len(pieces))])
		}
		checkNumber(t, word.String())
	}
}

// The cost: long words of digits, which numbers of any size would take far longer over.
func TestNumberCost(t *testing.T) {
	for _, word := range []string{strings.Repeat("9", 1<<24), "0x" + strings.Repeat("f", 1<<24), strings.Repeat("1_", 1<<23), strings.Repeat("9", 1<<24) + "h", strings.Repeat("1h", 1<<23)} {
		if took := quickest(func() { lex.Number(word) }); took > 4*time.Second {
			t.Errorf("Number(%.10q..) takes %v", word, took)
		}
	}
}
