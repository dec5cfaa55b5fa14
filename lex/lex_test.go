package lex_test

import (
	"math/rand"
	"slices"
	"strings"
	"testing"
	"time"

	"junction/api"
	"junction/lex"
)

func at(line, col int) api.Pos { return api.Pos{Line: line, Col: col} }

func kind(k, line, col int) api.Token { return api.Token{Kind: k, At: at(line, col)} }

func name(text string, line, col int) api.Token {
	return api.Token{Kind: api.TkName, Text: text, At: at(line, col)}
}

func number(n int32, line, col int) api.Token {
	return api.Token{Kind: api.TkNumber, Num: n, At: at(line, col)}
}

// all gathers what an iterator gives.
func all(src string) []api.Token {
	var list []api.Token
	for t := range lex.Each(src) {
		list = append(list, t)
	}
	return list
}

// P2.1
func TestScan(t *testing.T) {
	long := strings.Repeat("n", api.MaxName)
	for _, c := range []struct {
		src  string
		want []api.Token
	}{
		{"", []api.Token{kind(api.TkEnd, 1, 1)}},
		{" ", []api.Token{kind(api.TkEnd, 1, 2)}},
		{"\n", []api.Token{kind(api.TkEnd, 2, 1)}},
		{"\r\t", []api.Token{kind(api.TkEnd, 1, 3)}},
		{"# all of it", []api.Token{kind(api.TkEnd, 1, 12)}},
		{"#", []api.Token{kind(api.TkEnd, 1, 2)}},
		{"#\n", []api.Token{kind(api.TkEnd, 2, 1)}},
		{"##a\n#b\n;", []api.Token{kind(api.TkSemi, 3, 1), kind(api.TkEnd, 3, 2)}},
		{"#a\rb", []api.Token{kind(api.TkEnd, 1, 5)}},
		{"#\x00\x80\xff!_1a\na", []api.Token{name("a", 2, 1), kind(api.TkEnd, 2, 2)}},
		{"plan x {}", []api.Token{kind(api.TkPlan, 1, 1), name("x", 1, 6), kind(api.TkOpen, 1, 8), kind(api.TkClose, 1, 9), kind(api.TkEnd, 1, 10)}},
		{"a\r\n b#c\n", []api.Token{name("a", 1, 1), name("b", 2, 2), kind(api.TkEnd, 3, 1)}},
		{"x = 0x1F+2m;", []api.Token{name("x", 1, 1), kind(api.TkSet, 1, 3), number(31, 1, 5), kind(api.TkPlus, 1, 9), number(120, 1, 10), kind(api.TkSemi, 1, 12), kind(api.TkEnd, 1, 13)}},
		{"2147483647", []api.Token{number(2147483647, 1, 1), kind(api.TkEnd, 1, 11)}},
		{"min minimum Min", []api.Token{kind(api.TkMin, 1, 1), name("minimum", 1, 5), name("Min", 1, 13), kind(api.TkEnd, 1, 16)}},
		{"===", []api.Token{kind(api.TkEq, 1, 1), kind(api.TkSet, 1, 3), kind(api.TkEnd, 1, 4)}},
		{"<=>", []api.Token{kind(api.TkLe, 1, 1), kind(api.TkGt, 1, 3), kind(api.TkEnd, 1, 4)}},
		{"= =", []api.Token{kind(api.TkSet, 1, 1), kind(api.TkSet, 1, 3), kind(api.TkEnd, 1, 4)}},
		{"-5", []api.Token{kind(api.TkMinus, 1, 1), number(5, 1, 2), kind(api.TkEnd, 1, 3)}},
		{"a1-1", []api.Token{name("a1", 1, 1), kind(api.TkMinus, 1, 3), number(1, 1, 4), kind(api.TkEnd, 1, 5)}},
		{"a__1_", []api.Token{name("a__1_", 1, 1), kind(api.TkEnd, 1, 6)}},
		{long + "," + long, []api.Token{name(long, 1, 1), kind(api.TkComma, 1, 33), name(long, 1, 34), kind(api.TkEnd, 1, 66)}},
	} {
		got, fault := lex.Scan(c.src)
		if !slices.Equal(got, c.want) || fault != (api.Fault{}) {
			t.Errorf("Scan(%q) = %v, %v, want %v", c.src, got, fault, c.want)
		}
	}
}

// P2.1
func TestScanFaults(t *testing.T) {
	long := strings.Repeat("n", api.MaxName+1)
	for _, c := range []struct {
		src  string
		code api.Errno
		at   api.Pos
	}{
		{"a !b", api.ErrByte, at(1, 3)},
		{"!", api.ErrByte, at(1, 1)},
		{"! =", api.ErrByte, at(1, 1)},
		{"_a", api.ErrByte, at(1, 1)},
		{"a _", api.ErrByte, at(1, 3)},
		{"\n\xc3\xa9", api.ErrByte, at(2, 1)},
		{"a\xff", api.ErrByte, at(1, 2)},
		{"1\x80", api.ErrByte, at(1, 2)},
		{"\x00", api.ErrByte, at(1, 1)},
		{"\v", api.ErrByte, at(1, 1)},
		{"\x7f", api.ErrByte, at(1, 1)},
		{"a.b", api.ErrByte, at(1, 2)},
		{"# ok\r\n\t&", api.ErrByte, at(2, 2)},
		{"ab\n  12x4", api.ErrForm, at(2, 3)},
		{"1a", api.ErrForm, at(1, 1)},
		{"0X1", api.ErrForm, at(1, 1)},
		{"1__0 !", api.ErrForm, at(1, 1)},
		{"12" + long, api.ErrForm, at(1, 1)},
		{"9999999999x", api.ErrForm, at(1, 1)},
		{"2147483648", api.ErrBig, at(1, 1)},
		{"a\n\n\t2147483648 1a", api.ErrBig, at(3, 2)},
		{"0x80000000", api.ErrBig, at(1, 1)},
		{long, api.ErrName, at(1, 1)},
		{"plan " + long + " 1a", api.ErrName, at(1, 6)},
		{"1a " + long, api.ErrForm, at(1, 1)},
		{strings.Repeat("n", api.MaxSource), api.ErrName, at(1, 1)},
		{strings.Repeat(" ", api.MaxSource-1) + "!", api.ErrByte, at(1, api.MaxSource)},
		{strings.Repeat(" ", api.MaxSource+1), api.ErrLong, api.Pos{}},
		{"!" + strings.Repeat(" ", api.MaxSource), api.ErrLong, api.Pos{}},
		{strings.Repeat("1a\n", api.MaxSource), api.ErrLong, api.Pos{}},
	} {
		list, fault := lex.Scan(c.src)
		if len(list) != 0 || fault != (api.Fault{Code: c.code, At: c.at}) {
			t.Errorf("Scan(%.50q) = %d tokens, %v, want %d at %v", c.src, len(list), fault, c.code, c.at)
		}
	}
}

// P2.1: a text at its greatest length is let in.
func TestScanLongest(t *testing.T) {
	list, fault := lex.Scan(strings.Repeat(";", api.MaxSource))
	if len(list) != api.MaxSource+1 || fault != (api.Fault{}) {
		t.Fatalf("%d tokens, %v", len(list), fault)
	}
	if last := list[api.MaxSource]; last != kind(api.TkEnd, 1, api.MaxSource+1) {
		t.Errorf("the end: %v", last)
	}
	list, fault = lex.Scan(strings.Repeat("\n", api.MaxSource))
	if !slices.Equal(list, []api.Token{kind(api.TkEnd, api.MaxSource+1, 1)}) || fault != (api.Fault{}) {
		t.Errorf("lines: %v, %v", list, fault)
	}
}

// P2.1: each byte on its own, and behind a name.
func TestScanBytes(t *testing.T) {
	for c := range 256 {
		for _, src := range []string{string([]byte{byte(c)}), string([]byte{'a', byte(c)}), string([]byte{byte(c), 'a', byte(c)})} {
			checkScan(t, src)
		}
	}
}

// checkScan holds Scan and Each against the model.
func checkScan(t *testing.T, src string) {
	t.Helper()
	ahead, fault := modelScan(src)
	given := ahead
	if fault.Code != api.OK {
		given = append(slices.Clone(ahead), api.Token{Kind: -1, Num: int32(fault.Code), At: fault.At})
		ahead = nil
	}
	if list, f := lex.Scan(src); !slices.Equal(list, ahead) || f != fault {
		t.Errorf("P2.1: Scan(%.80q) = %v, %v, want %v, %v", src, list, f, ahead, fault)
	}
	if list := all(src); !slices.Equal(list, given) {
		t.Errorf("P2.2: Each(%.80q) = %v, want %v", src, list, given)
	}
}

// P2.1 and P2.2: all short texts of a few bytes that matter.
func TestScanShortTexts(t *testing.T) {
	allTexts(strings.Split("0|9|_|x|h|m|s|f|a|=|!|<|#|\n|\r| |-|\xc3", "|"), 4, func(src string) { checkScan(t, src) })
}

// P2.1 and P2.2
func TestScanLongTexts(t *testing.T) {
	r := rand.New(rand.NewSource(2))
	for range 3000 {
		checkScan(t, someText(r, 60))
	}
}

// P2.2
func TestEach(t *testing.T) {
	for _, c := range []struct {
		src  string
		want []api.Token
	}{
		{"", []api.Token{kind(api.TkEnd, 1, 1)}},
		{";", []api.Token{kind(api.TkSemi, 1, 1), kind(api.TkEnd, 1, 2)}},
		{"a b ! c", []api.Token{name("a", 1, 1), name("b", 1, 3), {Kind: api.TkBad, Num: 21, At: at(1, 5)}}},
		{"a 1a b", []api.Token{name("a", 1, 1), {Kind: api.TkBad, Num: 22, At: at(1, 3)}}},
		{"a\n9999999999", []api.Token{name("a", 1, 1), {Kind: api.TkBad, Num: 23, At: at(2, 1)}}},
		{strings.Repeat("n", 33) + " a", []api.Token{{Kind: api.TkBad, Num: 24, At: at(1, 1)}}},
		{strings.Repeat("a ", 40000), []api.Token{{Kind: api.TkBad, Num: 20}}},
	} {
		if got := all(c.src); !slices.Equal(got, c.want) {
			t.Errorf("Each(%.40q) = %v, want %v", c.src, got, c.want)
		}
	}
}

// P2.2: however many are asked for, those are given and no more; each time from the first one on.
func TestEachStops(t *testing.T) {
	for _, src := range []string{"a = 1;\n# c\nb", "a b ! c", "", "!", strings.Repeat(" ", api.MaxSource+1)} {
		whole := all(src)
		each := lex.Each(src)
		for most := 1; most <= len(whole); most++ {
			var got []api.Token
			each(func(x api.Token) bool {
				got = append(got, x)
				return len(got) < most
			})
			if !slices.Equal(got, whole[:most]) {
				t.Errorf("the first %d of %.20q: %v, want %v", most, src, got, whole[:most])
			}
		}
		if got := slices.Collect(each); !slices.Equal(got, whole) {
			t.Errorf("again all of %.20q: %v, want %v", src, got, whole)
		}
	}
}

// P2.2: two that go through one answer at the same time don't meet.
func TestEachNested(t *testing.T) {
	src := "a\nb\nc"
	each := lex.Each(src)
	whole, n := all(src), 0
	for outer := range each {
		if outer != whole[n] {
			t.Errorf("token %d outside: %v, want %v", n, outer, whole[n])
		}
		n++
		if inner := slices.Collect(each); !slices.Equal(inner, whole) {
			t.Errorf("within token %d: %v", n, inner)
		}
	}
	if n != len(whole) {
		t.Errorf("%d tokens outside, want %d", n, len(whole))
	}
}

// quickest is the least time of some rounds, so that a pause of the machine doesn't count.
func quickest(do func()) time.Duration {
	least := time.Hour
	for range 5 {
		begin := time.Now()
		do()
		least = min(least, time.Since(begin))
	}
	return least
}

// P2.2: the first token is given without the others' being cut, which would take seconds here.
func TestEachCutsAsItIsAsked(t *testing.T) {
	long := strings.Repeat("a ", api.MaxSource/2)
	took := quickest(func() {
		for range 300 {
			for range lex.Each(long) {
				break
			}
		}
	})
	if took > 250*time.Millisecond {
		t.Errorf("300 first tokens take %v", took)
	}
}

// The cost: to go over the longest texts once takes some milliseconds, to go over them once a token a second.
func TestScanCost(t *testing.T) {
	for _, piece := range []string{"a\n", "\n", "# ", "1 ", "  ;", "a#\n"} {
		src := strings.Repeat(piece, api.MaxSource/len(piece))
		if took := quickest(func() { lex.Scan(src) }); took > 500*time.Millisecond {
			t.Errorf("a text of %q takes %v", piece, took)
		}
	}
}

// G3: what one call answers has nothing in common with what another does.
func TestScanIsNewMemory(t *testing.T) {
	const src = "plan x { const a = 5; }"
	first, _ := lex.Scan(src)
	want := slices.Clone(first)
	second, _ := lex.Scan(src)
	clear(second[:cap(second)])
	_ = append(second, kind(api.TkBad, 9, 9))
	if again, _ := lex.Scan(src); !slices.Equal(first, want) || !slices.Equal(again, want) {
		t.Errorf("%v and %v, want %v", first, again, want)
	}
}
