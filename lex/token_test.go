package lex_test

import (
	"math"
	"strings"
	"testing"

	"junction/api"
	"junction/lex"
)

// P2.3
func TestWord(t *testing.T) {
	want := map[int]string{}
	for w, k := range kinds {
		want[k] = w
	}
	if len(want) != 59 {
		t.Fatalf("%d words in the test's own lists", len(want))
	}
	for k := -300; k <= 600; k++ {
		if w := lex.Word(k); w != want[k] {
			t.Errorf("Word(%d) = %q, want %q", k, w, want[k])
		}
	}
	for _, k := range []int{math.MinInt, math.MinInt32, math.MaxInt32, math.MaxInt, 1<<32 + 10, 1<<32 + 60, -1<<32 + 10, 1<<8 + 10} {
		if w := lex.Word(k); w != "" {
			t.Errorf("Word(%d) = %q", k, w)
		}
	}
}

// P2.3: the chapter's numbers are those of api's names.
func TestWordsOfNames(t *testing.T) {
	for k, want := range map[int]string{
		api.TkPlan: "plan", api.TkConst: "const", api.TkMin: "min", api.TkStage: "stage", api.TkWhen: "when", api.TkClear: "clear", api.TkElapsed: "elapsed", api.TkRed: "red", api.TkMax: "max", api.TkAbs: "abs",
		api.TkOpen: "{", api.TkSemi: ";", api.TkSet: "=", api.TkEq: "==", api.TkNe: "!=", api.TkLe: "<=", api.TkGe: ">=", api.TkMinus: "-", api.TkPercent: "%",
		api.TkBad: "", api.TkEnd: "", api.TkName: "", api.TkNumber: "",
	} {
		if w := lex.Word(k); w != want {
			t.Errorf("Word(%d) = %q, want %q", k, w, want)
		}
	}
}

// P2.4: KindOf takes back what Word says.
func TestKindOfWords(t *testing.T) {
	for w, k := range kinds {
		if got := lex.KindOf(w); got != k {
			t.Errorf("KindOf(%q) = %d, want %d", w, got, k)
		}
		for _, beside := range []string{" " + w, w + " ", w + "\n", "\t" + w, w + "#", "# " + w, w + ";", ";" + w, w + "\x00"} {
			if got := lex.KindOf(beside); got != api.TkBad {
				t.Errorf("KindOf(%q) = %d", beside, got)
			}
		}
		if k < 60 {
			for _, other := range []string{strings.ToUpper(w), strings.ToUpper(w[:1]) + w[1:], w + "_", w + "1", w + "x", "x" + w} {
				if got := lex.KindOf(other); got != api.TkName {
					t.Errorf("KindOf(%q) = %d", other, got)
				}
			}
		}
	}
}

// P2.4
func TestKindOf(t *testing.T) {
	for _, c := range []struct {
		word string
		want int
	}{
		{"==", 67}, {"= ", -1}, {"abs", 50}, {"absent", 1}, {"1h", 2}, {"", -1},
		{"a", 1}, {"Z", 1}, {"a_", 1}, {"a9", 1}, {"Plan", 1}, {"x__y", 1},
		{strings.Repeat("n", 32), 1}, {strings.Repeat("n", 33), -1}, {strings.Repeat("n", 1<<20), -1},
		{"0", 2}, {"007", 2}, {"1_000", 2}, {"0xfF", 2}, {"1h0m5s", 2}, {"2147483647", 2}, {"2147483648", -1}, {"12x", -1}, {"1_", -1},
		{"0" + strings.Repeat("_0", 40000), 2},
		{"-5", -1}, {"a b", -1}, {"a.", -1}, {"a-b", -1}, {"#", -1}, {"#a", -1}, {" ", -1}, {"\n", -1}, {" a", -1}, {"a\n", -1}, {"!", -1}, {"_", -1}, {"_a", -1}, {"===", -1}, {"{}", -1}, {"=!", -1}, {"a=", -1}, {"=a", -1}, {"\xc3\xa9", -1}, {"a\xff", -1}, {"\x00", -1},
	} {
		if got := lex.KindOf(c.word); got != c.want {
			t.Errorf("KindOf(%.40q) = %d, want %d", c.word, got, c.want)
		}
	}
}

// P2.4
func TestKindOfShortTexts(t *testing.T) {
	allTexts(strings.Split("0|7|_|x|h|s|a|F|=|!|>|#|\n| |{|min|\x80", "|"), 4, func(word string) {
		if got, want := lex.KindOf(word), modelKind(word); got != want {
			t.Errorf("KindOf(%q) = %d, want %d", word, got, want)
		}
	})
}
