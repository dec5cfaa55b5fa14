package lex_test

import (
	"math"
	"math/rand"
	"slices"
	"strings"
	"testing"

	"junction/api"
	"junction/lex"
)

// P2.6
func TestJoin(t *testing.T) {
	for _, c := range []struct {
		list []api.Token
		want string
	}{
		{nil, ""},
		{[]api.Token{}, ""},
		{[]api.Token{{Kind: api.TkEnd}}, ""},
		{[]api.Token{{Kind: api.TkName, Text: "a"}}, "a"},
		{[]api.Token{{Kind: api.TkName, Text: "a"}, {Kind: api.TkEnd}}, "a"},
		{[]api.Token{{Kind: api.TkNumber}}, "0"},
		{[]api.Token{{Kind: api.TkNumber, Num: math.MaxInt32}, {Kind: api.TkNumber, Num: 16}}, "2147483647 16"},
		{[]api.Token{{Kind: api.TkSet}, {Kind: api.TkSet}, {Kind: api.TkEq}}, "= = =="},
		{[]api.Token{{Kind: api.TkName, Text: strings.Repeat("n", 32)}}, strings.Repeat("n", 32)},
		{[]api.Token{{Kind: api.TkName, Text: "Plan"}, {Kind: api.TkPlan}, {Kind: api.TkOpen}}, "Plan plan {"},
		{[]api.Token{{Kind: api.TkName, Text: "x", At: at(-7, 0)}, {Kind: api.TkSemi, At: at(math.MaxInt, math.MinInt)}, {Kind: api.TkEnd, At: at(1, 1)}}, "x ;"},
	} {
		if got, e := lex.Join(c.list); got != c.want || e != api.OK {
			t.Errorf("Join(%v) = %q, %d, want %q", c.list, got, e, c.want)
		}
	}
}

// P2.6
func TestJoinOfScan(t *testing.T) {
	for src, want := range map[string]string{
		"stage  a{green g,0x10;}":         "stage a { green g , 16 ; }",
		"# c\n\tx=1_000 # d":              "x = 1000",
		"1h0m5s-007<=a":                   "3605 - 7 <= a",
		"":                                "",
		" \r\n":                           "",
		"a==b!=c<d<=e>f>=g+h-i*j/k%l(m)n": "a == b != c < d <= e > f >= g + h - i * j / k % l ( m ) n",
	} {
		list, _ := lex.Scan(src)
		if got, e := lex.Join(list); got != want || e != api.OK {
			t.Errorf("Join of %q = %q, %d, want %q", src, got, e, want)
		}
	}
}

// P2.6: each wrong token, alone, first, last and in the middle of a list.
func TestJoinRefusals(t *testing.T) {
	wrong := []api.Token{
		{Kind: api.TkBad}, {Kind: api.TkBad, Num: 21},
		{Kind: api.TkName}, {Kind: api.TkName, Text: "min"}, {Kind: api.TkName, Text: "a", Num: 1}, {Kind: api.TkName, Text: "a", Num: -1}, {Kind: api.TkName, Text: "1"}, {Kind: api.TkName, Text: "a b"}, {Kind: api.TkName, Text: "a "}, {Kind: api.TkName, Text: "_a"}, {Kind: api.TkName, Text: "=="}, {Kind: api.TkName, Text: "a#"}, {Kind: api.TkName, Text: "a\xff"}, {Kind: api.TkName, Text: strings.Repeat("n", 33)}, {Kind: api.TkName, Text: strings.Repeat("n", 1<<17)},
		{Kind: api.TkNumber, Num: -1}, {Kind: api.TkNumber, Num: math.MinInt32}, {Kind: api.TkNumber, Num: 1, Text: "1"}, {Kind: api.TkNumber, Text: "0"},
		{Kind: api.TkPlan, Num: 1}, {Kind: api.TkPlan, Num: -1}, {Kind: api.TkPlan, Text: "plan"}, {Kind: api.TkAbs, Text: "x"},
		{Kind: api.TkOpen, Num: 1}, {Kind: api.TkOpen, Text: "{"}, {Kind: api.TkPercent, Text: " "},
		{Kind: api.TkEnd, Num: 1}, {Kind: api.TkEnd, Num: -1}, {Kind: api.TkEnd, Text: "a"},
		{Kind: 3}, {Kind: 9}, {Kind: 51}, {Kind: 59}, {Kind: 78}, {Kind: -2}, {Kind: math.MaxInt}, {Kind: math.MinInt}, {Kind: 1<<32 + 10},
	}
	a, end := api.Token{Kind: api.TkName, Text: "a"}, api.Token{}
	for _, w := range wrong {
		for _, list := range [][]api.Token{{w}, {w, a}, {a, w}, {a, w, a}, {w, end}, {a, w, end}} {
			if got, e := lex.Join(list); got != "" || e != api.ErrJoin {
				t.Errorf("Join(%.80v) = %q, %d, want ErrJoin", list, got, e)
			}
		}
	}
	for _, list := range [][]api.Token{{end, end}, {end, a}, {a, end, end}, {a, end, a}, {end, a, end}} {
		if got, e := lex.Join(list); got != "" || e != api.ErrJoin {
			t.Errorf("Join(%v) = %q, %d, want ErrJoin", list, got, e)
		}
	}
}

// repeated: a list of n tokens of that kind.
func repeated(k, n int) []api.Token { return slices.Repeat([]api.Token{{Kind: k}}, n) }

// P2.6: the text's length to the byte; a token that can't be written is told ahead of a text that is too long.
func TestJoinLongest(t *testing.T) {
	signs := repeated(api.TkOpen, 32767) // 65533 bytes
	b, two, three := api.Token{Kind: api.TkName, Text: "b"}, api.Token{Kind: api.TkEq}, api.Token{Kind: api.TkName, Text: "bbb"}
	for _, c := range []struct {
		name string
		list []api.Token
		size int
		e    api.Errno
	}{
		{"65535 bytes", append(slices.Clone(signs), b), 65535, api.OK},
		{"65536 bytes", append(slices.Clone(signs), two), 65536, api.OK},
		{"65536 bytes and an end", append(slices.Clone(signs), two, api.Token{}), 65536, api.OK},
		{"65537 bytes", append(slices.Clone(signs), three), 0, api.ErrLong},
		{"65537 bytes and an end", append(slices.Clone(signs), three, api.Token{}), 0, api.ErrLong},
		{"65537 bytes, by a sign more", append(slices.Clone(signs), b, b), 0, api.ErrLong},
		{"far too many", repeated(api.TkPedestrian, 1<<20), 0, api.ErrLong},
		{"far too many, and a wrong one", append(repeated(api.TkPedestrian, 1<<17), api.Token{Kind: api.TkBad}), 0, api.ErrJoin},
		{"far too many, and two ends", append(repeated(api.TkPedestrian, 1<<17), api.Token{}, api.Token{}), 0, api.ErrJoin},
	} {
		if got, e := lex.Join(c.list); len(got) != c.size || e != c.e {
			t.Errorf("%s: %d bytes, %d", c.name, len(got), e)
		}
	}
}

// P2.6: the list that is handed in stays as it is.
func TestJoinLeavesItsList(t *testing.T) {
	for _, src := range []string{"a = 5;", "plan x {}"} {
		list, _ := lex.Scan(src)
		list[1].At = at(-1, 7)
		before := slices.Clone(list)
		lex.Join(list)
		if !slices.Equal(list, before) {
			t.Errorf("Join made %v of %v", list, before)
		}
	}
}

// bare: tokens without their places and without an end.
func bare(list []api.Token) []api.Token {
	var out []api.Token
	for _, x := range list {
		x.At = api.Pos{}
		if x.Kind != api.TkEnd {
			out = append(out, x)
		}
	}
	return out
}

// someTokens is a list that can be written, with or without an end, with places that mean nothing.
func someTokens(r *rand.Rand, most int) []api.Token {
	var list []api.Token
	for range r.Intn(most + 1) {
		x := api.Token{At: at(r.Intn(9)-4, r.Intn(9)-4)}
		switch r.Intn(4) {
		case 0:
			x.Kind, x.Text = api.TkName, []string{"a", "Plan", "x_1", "h", "e5", "x0", strings.Repeat("Q", 32)}[r.Intn(7)]
		case 1:
			x.Kind, x.Num = api.TkNumber, []int32{0, 1, 9, 10, 59, 1000, 2147483646, 2147483647}[r.Intn(8)]
		case 2:
			x.Kind = 10 + r.Intn(41)
		case 3:
			x.Kind = 60 + r.Intn(18)
		}
		list = append(list, x)
	}
	if r.Intn(2) == 0 {
		list = append(list, api.Token{})
	}
	return list
}

// checkAgain: the text's tokens are those, with one end behind them.
func checkAgain(t *testing.T, text string, want []api.Token) {
	t.Helper()
	list, fault := lex.Scan(text)
	if fault != (api.Fault{}) || !slices.Equal(bare(list), bare(want)) {
		t.Fatalf("Scan(%q) = %v, %v, want %v", text, list, fault, want)
	}
	ends := 0
	for _, x := range list {
		if x.Kind == api.TkEnd {
			ends++
		}
	}
	if ends != 1 || list[len(list)-1].Kind != api.TkEnd {
		t.Fatalf("Scan(%q) = %v: %d ends", text, list, ends)
	}
}

// P2.7: from a list to a text and back.
func TestJoinThenScan(t *testing.T) {
	r := rand.New(rand.NewSource(27))
	for range 5000 {
		list := someTokens(r, 40)
		text, e := lex.Join(list)
		if e != api.OK {
			t.Fatalf("Join(%v): %d", list, e)
		}
		checkAgain(t, text, list)
	}
	for k := range 100 {
		for l := range 100 {
			list := []api.Token{{Kind: k}, {Kind: l}}
			if text, e := lex.Join(list); e == api.OK {
				checkAgain(t, text, list)
			}
		}
	}
}

// P2.7: from a text to a list, a text and back.
func TestScanThenJoin(t *testing.T) {
	r, cut := rand.New(rand.NewSource(72)), 0
	for range 5000 {
		list, fault := lex.Scan(someText(r, 12))
		if fault.Code != api.OK {
			continue
		}
		cut++
		text, e := lex.Join(list)
		if e != api.OK {
			t.Fatalf("Join(%v): %d", list, e)
		}
		checkAgain(t, text, list)
	}
	if cut < 1000 {
		t.Errorf("only %d of the texts have no fault", cut)
	}
}

// P2.7: a text whose tokens, with blanks between them, are longer than a text may be.
func TestScanThenJoinTooLong(t *testing.T) {
	for _, src := range []string{strings.Repeat(";", 32769), strings.Repeat("(", 65536)} {
		list, fault := lex.Scan(src)
		if len(list) != len(src)+1 || fault.Code != api.OK {
			t.Fatalf("%d tokens, %v", len(list), fault)
		}
		if text, e := lex.Join(list); text != "" || e != api.ErrLong {
			t.Errorf("%d bytes, %d, want ErrLong", len(text), e)
		}
	}
}
