package lex

import "junction/api"

// words holds how each keyword and sign is written, at its kind's number; no kind has the numbers between.
var words = [...]string{
	api.TkPlan: "plan", "const", "group", "vehicle", "pedestrian", "min", "amber", "lead", "conflict", "detector",
	"latch", "delay", "hold", "timer", "counter", "var", "cond", "start", "stage", "green",
	"enter", "during", "leave", "next", "when", "reset", "run", "stop", "count", "clear",
	"if", "else", "or", "and", "not", "true", "false", "elapsed", "red", "max", "abs",

	api.TkOpen: "{", "}", "(", ")", ",", ";", "=", "==", "!=", "<", "<=", ">", ">=", "+", "-", "*", "/", "%",
}

// Word is how a keyword or a sign is written, or "".
func Word(kind int) string {
	if kind < 0 || kind >= len(words) {
		return ""
	}
	return words[kind]
}

// KindOf is the kind of the one token that a text is, or TkBad.
func KindOf(word string) int {
	t, size := firstToken(word)
	if word == "" || size != len(word) {
		return api.TkBad
	}
	return t.Kind
}

// firstToken cuts the token that a text begins with, without its place, and tells its length. Blanks and comments begin no token: whoever cuts a whole text passes them over.
func firstToken(text string) (api.Token, int) {
	switch {
	case text == "":
		return api.Token{Kind: api.TkEnd}, 0
	case isLetter(text[0]):
		run := firstRun(text)
		return wordToken(run), len(run)
	case isDigit(text[0]):
		run := firstRun(text)
		return numberToken(run), len(run)
	}
	return signToken(text)
}

// firstRun is the longest run of letters, digits and _ that a text begins with.
func firstRun(text string) string {
	size := 0
	for size < len(text) && (isLetter(text[size]) || isDigit(text[size]) || text[size] == '_') {
		size++
	}
	return text[:size]
}

func wordToken(run string) api.Token {
	if len(run) > api.MaxName {
		return badToken(api.ErrName)
	}
	kind := kindAmong(run, api.TkPlan, api.TkAbs)
	if kind == api.TkBad {
		return api.Token{Kind: api.TkName, Text: run}
	}
	return api.Token{Kind: kind}
}

func numberToken(run string) api.Token {
	n, e := Number(run)
	if e != api.OK {
		return badToken(e)
	}
	return api.Token{Kind: api.TkNumber, Num: n}
}

// signToken tries two bytes ahead of one, so that == is not cut as = twice.
func signToken(text string) (api.Token, int) {
	for size := min(2, len(text)); size > 0; size-- {
		kind := kindAmong(text[:size], api.TkOpen, api.TkPercent)
		if kind != api.TkBad {
			return api.Token{Kind: kind}, size
		}
	}
	return badToken(api.ErrByte), 0
}

// badToken tells a fault where a token is awaited.
func badToken(e api.Errno) api.Token { return api.Token{Kind: api.TkBad, Num: int32(e)} }

// kindAmong is the kind from first to last that is written so, or TkBad.
func kindAmong(text string, first, last int) int {
	for kind := first; kind <= last; kind++ {
		if words[kind] == text {
			return kind
		}
	}
	return api.TkBad
}

func isLetter(c byte) bool { return 'a' <= c && c <= 'z' || 'A' <= c && c <= 'Z' }

func isDigit(c byte) bool { return '0' <= c && c <= '9' }
