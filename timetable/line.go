package timetable

import (
	"strings"

	"junction/api"
)

// line is a line of the text, whose words are taken from the left. Its first fault stays, whatever is asked behind it.
type line struct {
	text     string // without its comment
	number   int
	from, to int // where the word that was taken last begins and ends
	fault    api.Fault
}

func newLine(text string, number int) line {
	text, _, _ = strings.Cut(text, "#")
	return line{text: text, number: number}
}

// next takes the next word; of none "".
func (l *line) next() string {
	from := l.to
	for from < len(l.text) && isBlank(l.text[from]) {
		from++
	}
	if from == len(l.text) {
		return ""
	}
	to := from
	for to < len(l.text) && !isBlank(l.text[to]) {
		to++
	}
	l.from, l.to = from, to
	return l.text[from:to]
}

func isBlank(b byte) bool { return b == ' ' || b == '\t' || b == '\r' }

// need tells a fault at the word that was taken last, if something does not hold.
func (l *line) need(holds bool, e api.Errno) {
	if !holds {
		l.blame(e, l.from)
	}
}

func (l *line) blame(e api.Errno, index int) {
	if l.fault.Code == api.OK {
		l.fault = api.Fault{Code: e, At: api.Pos{Line: l.number, Col: index + 1}}
	}
}

// room needs that a list may grow by what this line tells.
func (l *line) room(have, most int) { l.need(have < most, api.ErrTableFull) }

// word takes one that may not be missing.
func (l *line) word() string {
	word := l.next()
	if word == "" {
		l.blame(api.ErrTableLine, l.to)
	}
	return word
}

// end needs that no word is left.
func (l *line) end() { l.need(l.next() == "", api.ErrTableLine) }

func (l *line) name() string {
	word := l.word()
	l.need(isName(word), api.ErrTableLine)
	return word
}

func (l *line) clock() int {
	minute, ok := clockOf(l.word())
	l.need(ok, api.ErrTableClock)
	return minute
}

func (l *line) date() int {
	day, ok := dateOf(l.word())
	l.need(ok, api.ErrTableDate)
	return day
}

func (l *line) plus() int {
	plus, ok := signedOf(l.word())
	l.need(ok, api.ErrTableLine)
	l.need(isPlus(plus), api.ErrTableClock)
	return plus
}

// slot takes the word slot and its number, or the word flash.
func (l *line) slot() int {
	switch l.word() {
	case "flash":
		return api.SlotFlash
	case "slot":
		slot, ok := slotOf(l.word())
		l.need(ok, api.ErrTableLine)
		return slot
	}
	l.need(false, api.ErrTableLine)
	return 0
}
