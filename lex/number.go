package lex

import (
	"strings"

	"junction/api"
)

// tooGreat is where digits stop being counted: their value is past the words already, and stays so with a unit's worth.
const tooGreat = api.MaxWord + 1

// Number is the value of a number: decimal, hexadecimal or a duration.
func Number(word string) (int32, api.Errno) {
	value, ok := numberValue(word)
	if !ok {
		return 0, api.ErrForm
	}
	if value > api.MaxWord {
		return 0, api.ErrBig
	}
	return int32(value), api.OK
}

// numberValue is what a text of one of the three forms is worth; what is too great for a word may be told as any such value.
func numberValue(text string) (int64, bool) {
	if text == "" || !isDigit(text[0]) {
		return 0, false
	}
	if hex, found := strings.CutPrefix(text, "0x"); found {
		return digitsValue(hex, 16)
	}
	if value, ok := digitsValue(text, 10); ok {
		return value, true
	}
	return durationValue(text)
}

// digitsValue is the value of one or more digits, between two of which one _ may stand.
func digitsValue(text string, base int64) (int64, bool) {
	var value int64
	// The begin counts as a _, so that a _ there is refused as a second one is.
	before := byte('_')
	for i := range len(text) {
		c := text[i]
		if c == '_' && before == '_' {
			return 0, false
		}
		if c != '_' {
			digit := digitValue(c)
			if digit >= base {
				return 0, false
			}
			value = min(value*base+digit, tooGreat)
		}
		before = c
	}
	return value, before != '_'
}

// digitValue is the value of a hexadecimal digit; of any other byte one that is a digit in no base.
func digitValue(c byte) int64 {
	switch {
	case isDigit(c):
		return int64(c - '0')
	case 'a' <= c && c <= 'f':
		return int64(c-'a') + 10
	case 'A' <= c && c <= 'F':
		return int64(c-'A') + 10
	}
	return 16
}

// durationValue is the seconds of hours, minutes and seconds, in this order, each at most once. The text is not empty: so if it has none of them, something is left over.
func durationValue(text string) (int64, bool) {
	if strings.Contains(text, "_") {
		return 0, false
	}
	var sum int64
	for _, unit := range [...]struct {
		letter string
		worth  int64
	}{{"h", 3600}, {"m", 60}, {"s", 1}} {
		digits, rest, found := strings.Cut(text, unit.letter)
		if !found {
			continue
		}
		value, ok := digitsValue(digits, 10)
		if !ok {
			return 0, false
		}
		sum += value * unit.worth
		text = rest
	}
	return sum, text == ""
}
