package lex_test

import (
	"math/big"
	"math/rand"
	"regexp"
	"strings"

	"junction/api"
)

// The model: the chapter's rules as patterns, worked out in another way than the package does it.

// keywords and signs as the chapter lists them, the first of them being 10 and 60.
var (
	keywords = strings.Fields("plan const group vehicle pedestrian min amber lead conflict detector latch delay hold timer counter var cond start stage green enter during leave next when reset run stop count clear if else or and not true false elapsed red max abs")
	signs    = strings.Fields("{ } ( ) , ; = == != < <= > >= + - * / %")
)

var (
	passedPattern   = regexp.MustCompile(`^(?:[ \t\r\n]|#[^\n]*)+`)
	wordPattern     = regexp.MustCompile(`^[a-zA-Z][a-zA-Z0-9_]*`)
	runPattern      = regexp.MustCompile(`^[0-9][a-zA-Z0-9_]*`)
	signPattern     = regexp.MustCompile(`^(?:==|!=|<=|>=|[{}(),;=<>+*/%-])`)
	decimalPattern  = regexp.MustCompile(`^[0-9]+(?:_[0-9]+)*$`)
	hexPattern      = regexp.MustCompile(`^0x([0-9a-fA-F]+(?:_[0-9a-fA-F]+)*)$`)
	durationPattern = regexp.MustCompile(`^(?:([0-9]+)h)?(?:([0-9]+)m)?(?:([0-9]+)s)?$`)
)

// spellings: the kind of each keyword and sign.
func spellings() map[string]int {
	m := map[string]int{}
	for i, w := range keywords {
		m[w] = 10 + i
	}
	for i, w := range signs {
		m[w] = 60 + i
	}
	return m
}

var kinds = spellings()

// modelPlace counts the bytes ahead one by one.
func modelPlace(src string, at int) api.Pos {
	if at < 0 || at > len(src) {
		return api.Pos{}
	}
	p := api.Pos{Line: 1, Col: 1}
	for _, c := range []byte(src[:at]) {
		p.Col++
		if c == 10 {
			p = api.Pos{Line: p.Line + 1, Col: 1}
		}
	}
	return p
}

// modelNumber works in whole numbers of any size.
func modelNumber(word string) (int32, api.Errno) {
	value := new(big.Int)
	hex, times := hexPattern.FindStringSubmatch(word), durationPattern.FindStringSubmatch(word)
	switch {
	case decimalPattern.MatchString(word):
		value.SetString(strings.ReplaceAll(word, "_", ""), 10)
	case hex != nil:
		value.SetString(strings.ReplaceAll(hex[1], "_", ""), 16)
	case times != nil && word != "":
		for i, worth := range []int64{3600, 60, 1} {
			part, _ := new(big.Int).SetString("0"+times[i+1], 10)
			value.Add(value, part.Mul(part, big.NewInt(worth)))
		}
	default:
		return 0, api.ErrForm
	}
	if value.Cmp(big.NewInt(2147483647)) > 0 {
		return 0, api.ErrBig
	}
	return int32(value.Int64()), api.OK
}

// modelToken is the token that a text begins with, without its place, and what it is written by.
func modelToken(text string) (api.Token, string, api.Errno) {
	if w := wordPattern.FindString(text); w != "" {
		if len(w) > 32 {
			return api.Token{}, w, api.ErrName
		}
		if kind := kinds[w]; kind != 0 {
			return api.Token{Kind: kind}, w, api.OK
		}
		return api.Token{Kind: 1, Text: w}, w, api.OK
	}
	if w := runPattern.FindString(text); w != "" {
		n, e := modelNumber(w)
		return api.Token{Kind: 2, Num: n}, w, e
	}
	if w := signPattern.FindString(text); w != "" {
		return api.Token{Kind: kinds[w]}, w, api.OK
	}
	return api.Token{}, "", api.ErrByte
}

// modelScan is what Scan is to answer, with the tokens ahead of a fault.
func modelScan(src string) ([]api.Token, api.Fault) {
	if len(src) > 65536 {
		return nil, api.Fault{Code: api.ErrLong}
	}
	var list []api.Token
	for at := 0; ; {
		at += len(passedPattern.FindString(src[at:]))
		place := modelPlace(src, at)
		if at == len(src) {
			return append(list, api.Token{At: place}), api.Fault{}
		}
		t, w, e := modelToken(src[at:])
		if e != api.OK {
			return list, api.Fault{Code: e, At: place}
		}
		t.At = place
		list = append(list, t)
		at += len(w)
	}
}

// modelKind is what KindOf is to answer.
func modelKind(word string) int {
	t, w, e := modelToken(word)
	if e != api.OK || w != word {
		return -1
	}
	return t.Kind
}

// allTexts calls do with each text of at most that many of the pieces.
func allTexts(pieces []string, most int, do func(string)) {
	texts := []string{""}
	for range most + 1 {
		var longer []string
		for _, text := range texts {
			do(text)
			for _, p := range pieces {
				longer = append(longer, text+p)
			}
		}
		texts = longer
	}
}

// somePieces: what texts are put together of, faults rare enough for long texts without one.
var somePieces = strings.Split("a|b_|Z9|plan|abs|min|elapsed|Plan|x1|h|m|s|0|7|10|1_000|0x1F|0xff_ff|2m|1h30m|90s|2147483647|==|=|!=|<|<=|>|>=|+|-|*|/|%|{|}|(|)|,|;|_| | | |\t|\r\n|\n|\n|# c\xff!\n|#|"+strings.Repeat("n", 32), "|")

// someText is a text of up to that many pieces, the same of the same seed.
func someText(r *rand.Rand, most int) string {
	var b strings.Builder
	for range r.Intn(most + 1) {
		b.WriteString(somePieces[r.Intn(len(somePieces))])
		if r.Intn(3) > 0 {
			b.WriteByte(' ')
		}
	}
	return b.String()
}
