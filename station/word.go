package station

import (
	"strings"

	"junction/api"
	"junction/timetable"
)

const (
	anyNumber = 999999999 // the greatest that a word can tell
	maxByte   = 255
	hexDigits = "0123456789abcdef"
	maxDigits = 65536 // of a word of bytes
)

// wordsOf are the words of a line ahead of its comment.
func wordsOf(line string) []string {
	line, _, _ = strings.Cut(line, "#")
	return strings.FieldsFunc(line, isBlank)
}

func isBlank(r rune) bool { return r == ' ' || r == '\t' || r == '\r' || r == '\n' }

func isDigit(b byte) bool { return '0' <= b && b <= '9' }

// numberOf reads a number of 1 to 9 digits, of at most that much.
func numberOf(word string, most int) (int, bool) {
	if len(word) < 1 || len(word) > 9 {
		return 0, false
	}
	n := 0
	for i := range len(word) {
		if !isDigit(word[i]) {
			return 0, false
		}
		n = 10*n + int(word[i]-'0')
	}
	return n, n <= most
}

// shaped reads the numbers of a word that has a digit where the form has a 0, and all else as the form has it.
func shaped(word, form string) ([]int, bool) {
	if len(word) != len(form) {
		return nil, false
	}
	list := []int{0}
	for i := range len(form) {
		switch {
		case form[i] != '0' && word[i] == form[i]:
			list = append(list, 0)
		case form[i] == '0' && isDigit(word[i]):
			n := &list[len(list)-1]
			*n = 10**n + int(word[i]-'0')
		default:
			return nil, false
		}
	}
	return list, true
}

// dayOf reads a date.
func dayOf(word string) (int, bool) {
	n, ok := shaped(word, "0000-00-00")
	if !ok {
		return 0, false
	}
	day, e := timetable.DayNumber(n[0], n[1], n[2])
	return day, e == api.OK
}

// minuteOf reads a time of day.
func minuteOf(word string) (int, bool) {
	n, ok := shaped(word, "00:00")
	if !ok || n[0] > 23 || n[1] > 59 {
		return 0, false
	}
	return 60*n[0] + n[1], true
}

// digitOf is what a hexadecimal digit of either case is worth.
func digitOf(b byte) (byte, bool) {
	switch {
	case isDigit(b):
		return b - '0', true
	case 'a' <= b && b <= 'f':
		return b - 'a' + 10, true
	case 'A' <= b && b <= 'F':
		return b - 'A' + 10, true
	}
	return 0, false
}

// bytesOf reads bytes as hexadecimal digits, or a dash for none.
func bytesOf(word string) ([]byte, bool) {
	if word == "-" {
		return nil, true
	}
	if len(word)%2 != 0 || len(word) > maxDigits {
		return nil, false
	}
	b := make([]byte, len(word)/2)
	for i := range len(word) {
		digit, ok := digitOf(word[i])
		if !ok {
			return nil, false
		}
		b[i/2] = b[i/2]<<4 | digit
	}
	return b, true
}
