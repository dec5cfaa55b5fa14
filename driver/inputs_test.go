package driver_test

import (
	"fmt"
	"math/rand"
	"slices"
	"strings"
	"testing"

	"junction/api"
	"junction/driver"
)

func checkInputs(t *testing.T, text string, want ...uint64) {
	t.Helper()
	if list, errno := driver.Inputs(text); errno != api.OK || !slices.Equal(list, want) {
		t.Errorf("Inputs(%.200q): %d masks %.200v, %d, want %d masks %.200v", text, len(list), list, errno, len(want), want)
	}
}

func checkNoInputs(t *testing.T, text string) {
	t.Helper()
	if list, errno := driver.Inputs(text); errno != api.ErrInputs || len(list) != 0 {
		t.Errorf("Inputs(%.200q): %d masks, %d", text, len(list), errno)
	}
}

// P14.10: words, and what stands between them.
func TestInputs(t *testing.T) {
	t.Parallel()
	checkInputs(t, "")
	checkInputs(t, " \t\n\r ")
	checkInputs(t, "2*0 3F\n", 0, 0, 63)
	checkInputs(t, "0", 0)
	checkInputs(t, "\r\n\t 1\t2\n3\r4 5 \n", 1, 2, 3, 4, 5)
	checkInputs(t, "1*a 2*B 3*cD", 10, 11, 11, 0xcd, 0xcd, 0xcd)
	checkInputs(t, "0123456789abcdef 0123456789ABCDEF fFfFfFfFfFfFfFfF 8000000000000000", 0x0123456789abcdef, 0x0123456789abcdef, 1<<64-1, 1<<63)
	checkInputs(t, "0000000000000001 0000000000000000", 1, 0)
	checkInputs(t, "01*1 0000000000000000000000000002*01", 1, 1, 1)
	checkInputs(t, strings.Repeat("0", 100000)+"3*7", 7, 7, 7)
	checkInputs(t, strings.Repeat(" ", 100000)+"e"+strings.Repeat("\n", 100000), 14)
	checkInputs(t, "10", 16)
	checkInputs(t, "10*10", slices.Repeat([]uint64{16}, 10)...)
}

// P14.10: each way in which a word is none.
func TestNoInputs(t *testing.T) {
	t.Parallel()
	for _, word := range []string{
		"0*1", "00*1", "*1", "1*", "*", "**", "1**1", "1*1*1", "1*1*", "*1*1",
		"0x1", "0X1", "0o1", "1_0", "1_0*1", "x", "g", "G", "-1", "+1", "-1*1", "+1*1", "1*-1", "1*+1", "1.0", "1e*1", "a*1", "0x1*1", "1*0x1",
		"12345678901234567", "00000000000000000", "1*00000000000000001", "10000000000000000",
		"99999999999999999999*1", "4294967297*1", "18446744073709551617*1", "9223372036854775808*1", strings.Repeat("9", 100000) + "*1",
		"1,2", "1;", "#", "٣", "é", "\x00", "1\x00", "\xff", "1\xff", "1\u00a0", "\u2003",
	} {
		for _, text := range []string{word, " " + word + "\n", "1 2*3 " + word, word + " 1", "1\n" + word + "\t1"} {
			checkNoInputs(t, text)
		}
	}
	for _, text := range []string{"1 *2", "1* 2", "1 * 2", "1*\n2"} {
		checkNoInputs(t, text)
	}
}

// P14.10: every byte as a blank, as a digit of the bits, and as one of the number.
func TestInputBytes(t *testing.T) {
	t.Parallel()
	for b := range 256 {
		sign := string([]byte{byte(b)})
		switch {
		case strings.Contains(" \t\n\r", sign):
			checkInputs(t, "1"+sign+"2", 1, 2)
			checkInputs(t, sign+"1"+sign+sign, 1)
		case strings.Contains("0123456789abcdefABCDEF", sign):
			var digit uint64
			fmt.Sscanf(sign, "%x", &digit)
			checkInputs(t, "1"+sign+"2", 0x102+16*digit)
			checkInputs(t, "1*"+sign, digit)
			checkInputs(t, sign+" 1", digit, 1)
		case sign == "*":
			checkInputs(t, "1"+sign+"2", 2)
		default:
			checkNoInputs(t, "1"+sign+"2")
			checkNoInputs(t, sign)
			checkNoInputs(t, "1 "+sign+" 2")
			checkNoInputs(t, sign+"1")
			checkNoInputs(t, "1"+sign)
		}
		if strings.Contains("123456789", sign) {
			checkInputs(t, sign+"*4", slices.Repeat([]uint64{4}, b-'0')...)
		} else if !strings.Contains(" \t\n\r", sign) {
			checkNoInputs(t, sign+"*4")
		}
	}
}

// P14.10: MaxTicks ticks and one more, by one word and by many.
func TestMostInputs(t *testing.T) {
	t.Parallel()
	ones := slices.Repeat([]uint64{1}, 65536)
	checkInputs(t, "65536*1", ones...)
	checkInputs(t, "0000065536*1", ones...)
	checkInputs(t, "65535*1 1", ones...)
	checkInputs(t, "1 65535*1", ones...)
	checkInputs(t, "32768*1 32768*1", ones...)
	checkInputs(t, strings.Repeat("1 ", 65536), ones...)
	for _, text := range []string{"65537*1", "65536*1 1", "1 65536*1", "32768*1 32769*1", strings.Repeat("1 ", 65537), strings.Repeat("1\n", 1<<20), "65535*1 2*1", "65535*1 1*1 1*1"} {
		checkNoInputs(t, text)
	}
	// Whatever stands behind the last tick that there may be.
	checkNoInputs(t, "65536*1 x")
	checkNoInputs(t, "65536*1 18446744073709551615*1")
}

// checkInputsAgain holds Inputs against the second way.
func checkInputsAgain(t *testing.T, text string) bool {
	t.Helper()
	want, errnoWant := modelInputs(text)
	list, errno := driver.Inputs(text)
	if errno != errnoWant || !slices.Equal(list, want) {
		t.Fatalf("Inputs(%q): %d masks %.200v, %d, want %d masks %.200v, %d", text, len(list), list, errno, len(want), want, errnoWant)
	}
	return errno == api.OK
}

// P14.10: all short texts of some bytes, and longer ones at random, against the second way.
func TestInputsAtRandom(t *testing.T) {
	t.Parallel()
	var grow func(text string, left int)
	grow = func(text string, left int) {
		checkInputsAgain(t, text)
		if left > 0 {
			for _, b := range "01a* x\n" {
				grow(text+string(b), left-1)
			}
		}
	}
	grow("", 6)
	r := rand.New(rand.NewSource(1410))
	kept, lost := 0, 0
	for range 20000 {
		var b strings.Builder
		for range r.Intn(12) {
			if r.Intn(3) == 0 {
				b.WriteString(pick(r, "1", "2", "007", "30", fmt.Sprint(r.Intn(9000)), "65536", "0", "99999999999999999999") + "*")
			}
			digits := 1 + r.Intn(16)
			fmt.Fprintf(&b, pick(r, "%0*x", "%0*X"), digits, r.Uint64()>>(64-4*digits))
			b.WriteString(pick(r, " ", "\n", "\t", "\r\n", "  "))
		}
		text := b.String()
		for range pick(r, 0, 0, 1, 2) {
			text = smudged(r, text, "0", "*", " ", "g", "f", "\n", "1*", "\v")
		}
		if checkInputsAgain(t, text) {
			kept++
		} else {
			lost++
		}
	}
	if kept < 3000 || lost < 3000 {
		t.Errorf("%d inputs, %d others", kept, lost)
	}
}
