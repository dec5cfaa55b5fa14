package arith

import (
	"strconv"
	"strings"

	"junction/api"
)

// longestNumeral is how many bytes the numeral of a word has at most: those of -2147483648.
const longestNumeral = 11

// Number reads a word that is written as Text writes it.
func Number(text string) (int32, api.Errno) {
	if !isNumeral(text) {
		return 0, api.ErrNumber
	}
	if len(text) > longestNumeral {
		return 0, api.ErrBig
	}
	n, err := strconv.ParseInt(text, 10, 32)
	if err != nil {
		return 0, api.ErrBig
	}
	return int32(n), api.OK
}

// Text writes a word.
func Text(n int32) string { return strconv.Itoa(int(n)) }

// isNumeral tells whether a text is the shortest decimal text of some whole number, of whatever size.
func isNumeral(text string) bool {
	if text == "0" {
		return true
	}
	digits := strings.TrimPrefix(text, "-")
	if digits == "" || digits[0] == '0' {
		return false
	}
	for i := range len(digits) {
		if digits[i] < '0' || digits[i] > '9' {
			return false
		}
	}
	return true
}
