package timetable

import (
	"strconv"

	"junction/api"
)

// hasForm tells whether a word has a digit wherever the form has a 0, and the form's own bytes elsewhere.
func hasForm(word, form string) bool {
	if len(word) != len(form) {
		return false
	}
	for i := range len(form) {
		if form[i] == '0' && !isDigit(word[i]) || form[i] != '0' && word[i] != form[i] {
			return false
		}
	}
	return true
}

// number is that of a few digits, perhaps with a sign ahead of them.
func number(digits string) int {
	n, _ := strconv.Atoi(digits)
	return n
}

// clockOf is the minute of the day that a word tells.
func clockOf(word string) (int, bool) {
	if !hasForm(word, "00:00") {
		return 0, false
	}
	hour, minute := number(word[:2]), number(word[3:])
	if hour > 23 || minute > 59 {
		return 0, false
	}
	return 60*hour + minute, true
}

// dateOf is the day that a word tells.
func dateOf(word string) (int, bool) {
	if !hasForm(word, "0000-00-00") {
		return 0, false
	}
	day, e := DayNumber(number(word[:4]), number(word[5:7]), number(word[8:]))
	return day, e == api.OK
}

// signedOf is the number that a sign and one to three digits tell.
func signedOf(word string) (int, bool) {
	if len(word) < 2 || len(word) > 4 || word[0] != '+' && word[0] != '-' || !hasForm(word[1:], "000"[:len(word)-1]) {
		return 0, false
	}
	return number(word), true
}

// slotOf is the slot that one digit tells.
func slotOf(word string) (int, bool) {
	if !hasForm(word, "0") || number(word) > api.MaxSlot {
		return 0, false
	}
	return number(word), true
}
