package lex_test

import (
	"math"
	"strings"
	"testing"

	"junction/api"
	"junction/lex"
)

// P2.8
func TestPlace(t *testing.T) {
	long := strings.Repeat("ab\n", 1<<20)
	for _, c := range []struct {
		src  string
		at   int
		want api.Pos
	}{
		{"a\nbc", 0, at(1, 1)}, {"a\nbc", 1, at(1, 2)}, {"a\nbc", 2, at(2, 1)}, {"a\nbc", 3, at(2, 2)}, {"a\nbc", 4, at(2, 3)},
		{"a\nbc", 5, api.Pos{}}, {"a\nbc", -1, api.Pos{}}, {"a\nbc", math.MaxInt, api.Pos{}}, {"a\nbc", math.MinInt, api.Pos{}}, {"a\nbc", 1 << 32, api.Pos{}},
		{"", 0, at(1, 1)}, {"", 1, api.Pos{}}, {"", -1, api.Pos{}},
		{"\n", 0, at(1, 1)}, {"\n", 1, at(2, 1)}, {"\r\n\t", 1, at(1, 2)}, {"\r\n\t", 3, at(2, 2)}, {"\r\r", 2, at(1, 3)},
		{"\xc3\xa9x", 2, at(1, 3)}, {"# \n!", 3, at(2, 1)},
		{long, len(long), at(1<<20+1, 1)}, {long, len(long) - 1, at(1<<20, 3)}, {long, len(long) + 1, api.Pos{}},
	} {
		if got := lex.Place(c.src, c.at); got != c.want {
			t.Errorf("Place(%.20q, %d) = %v, want %v", c.src, c.at, got, c.want)
		}
	}
}

// P2.8
func TestPlaceShortTexts(t *testing.T) {
	allTexts([]string{"a", "\n", "\r", "\t", "\xff"}, 5, func(src string) {
		for i := -2; i <= len(src)+2; i++ {
			if got, want := lex.Place(src, i), modelPlace(src, i); got != want {
				t.Errorf("Place(%q, %d) = %v, want %v", src, i, got, want)
			}
		}
	})
}

// P2.8: the places of tokens are those of their first bytes.
func TestPlaceOfTokens(t *testing.T) {
	src := "plan x {\r\n\tconst abc = 12;\n\n#c\n  timer t; }\n"
	from := 0
	for x := range lex.Each(src) {
		word := lex.Word(x.Kind) + x.Text
		if x.Kind == api.TkNumber {
			word = "12"
		}
		i := from + strings.Index(src[from:], word)
		if x.Kind == api.TkEnd {
			i = len(src)
		}
		if got := lex.Place(src, i); got != x.At {
			t.Errorf("%v: Place(.., %d) = %v", x, i, got)
		}
		from = i + len(word)
	}
}

// P2.9
func TestLineOf(t *testing.T) {
	for _, c := range []struct {
		src  string
		line int
		want string
	}{
		{"a\r\nbc", 1, "a"}, {"a\r\nbc", 2, "bc"}, {"a\r\nbc", 3, ""}, {"a\r\nbc", 0, ""}, {"a\r\nbc", -1, ""}, {"a\r\nbc", math.MaxInt, ""}, {"a\r\nbc", math.MinInt, ""}, {"a\r\nbc", 1<<32 + 1, ""},
		{"", 1, ""}, {"", 2, ""}, {"x", 1, "x"}, {"x", 2, ""},
		{"x\n", 1, "x"}, {"x\n", 2, ""}, {"\n\nx", 1, ""}, {"\n\nx", 3, "x"}, {"\r\nx\r\n", 1, ""}, {"\r\nx\r\n", 2, "x"},
		{"a\r", 1, "a\r"}, {"\r", 1, "\r"}, {"x\na\r", 2, "a\r"}, {"a\r\r\n", 1, "a\r"}, {"a\rb\n", 1, "a\rb"}, {"\ra\n", 1, "\ra"}, {"a\n\rb", 2, "\rb"},
		{" a\t \n", 1, " a\t "}, {"a # c\xff\x00\n", 1, "a # c\xff\x00"},
		{strings.Repeat("ab\r\n", 1<<20) + "z", 1<<20 + 1, "z"}, {strings.Repeat("ab\r\n", 1<<20) + "z", 1 << 20, "ab"},
	} {
		if got := lex.LineOf(c.src, c.line); got != c.want {
			t.Errorf("LineOf(%.20q, %d) = %q, want %q", c.src, c.line, got, c.want)
		}
	}
}

// P2.9: a text with n bytes 10 has n + 1 lines.
func TestLineOfShortTexts(t *testing.T) {
	allTexts([]string{"a", "\n", "\r", "\xff"}, 6, func(src string) {
		lines := strings.Split(src, "\n")
		for i := -1; i <= len(lines)+2; i++ {
			want := ""
			if i >= 1 && i <= len(lines) {
				want = lines[i-1]
			}
			if i < len(lines) && strings.HasSuffix(want, "\r") {
				want = want[:len(want)-1]
			}
			if got := lex.LineOf(src, i); got != want {
				t.Errorf("LineOf(%q, %d) = %q, want %q", src, i, got, want)
			}
		}
	})
}
