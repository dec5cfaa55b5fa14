package timetable

import (
	"slices"

	"junction/api"
)

// noWeek stands for the week that no line has told yet: no kind has these numbers.
var noWeek = [7]int{-1, -1, -1, -1, -1, -1, -1}

// reader reads a timetable line by line.
type reader struct {
	line
	lines map[string]func() // by a line's first word what reads the rest of it
	table api.Timetable
}

func newReader() *reader {
	r := &reader{table: api.Timetable{Week: noWeek}}
	r.lines = map[string]func(){
		"timetable": r.title,
		"day":       r.day,
		"at":        r.row,
		"week":      r.week,
		"season":    r.season,
		"on":        r.except,
		"shift":     r.shift,
	}
	return r
}

// read takes one line of the text. Behind a fault there is no sense in the table.
func (r *reader) read(text string, number int) api.Fault {
	r.line = newLine(text, number)
	word := r.next()
	if word == "" {
		return api.Fault{}
	}
	rest, ok := r.lines[word]
	isFirst := r.table.Name == ""
	if !ok || isFirst != (word == "timetable") {
		r.need(false, api.ErrTableLine)
		return r.fault
	}
	rest()
	r.end()
	return r.fault
}

// isWhole tells, behind the last line, whether nothing lacks.
func (r *reader) isWhole() bool { return r.table.Week != noWeek && hasRows(r.table.Days) }

func (r *reader) title() { r.table.Name = r.name() }

func (r *reader) day() {
	r.room(len(r.table.Days), api.MaxKinds)
	name := r.name()
	r.need(r.kindNamed(name) < 0, api.ErrTableTwice)
	r.table.Days = append(r.table.Days, api.DayKind{Name: name})
}

func (r *reader) row() {
	if len(r.table.Days) == 0 {
		r.need(false, api.ErrTableLine)
		return
	}
	kind := &r.table.Days[len(r.table.Days)-1]
	r.room(len(kind.Rows), api.MaxRows)
	row := api.Row{Minute: r.clock()}
	if n := len(kind.Rows); n > 0 {
		r.need(kind.Rows[n-1].Minute < row.Minute, api.ErrTableOrder)
	}
	row.Slot = r.slot()
	kind.Rows = append(kind.Rows, row)
}

func (r *reader) week() {
	r.need(r.table.Week == noWeek, api.ErrTableTwice)
	r.table.Week = r.kinds()
}

func (r *reader) season() {
	r.room(len(r.table.Seasons), api.MaxSeasons)
	s := api.Season{From: r.date()}
	s.To = r.date()
	r.need(s.From <= s.To, api.ErrTableDate)
	s.Week = r.kinds()
	r.table.Seasons = append(r.table.Seasons, s)
}

func (r *reader) except() {
	r.room(len(r.table.Excepts), api.MaxExcepts)
	x := api.Except{Day: r.date()}
	isThere := slices.ContainsFunc(r.table.Excepts, func(y api.Except) bool { return y.Day == x.Day })
	r.need(!isThere, api.ErrTableTwice)
	x.Kind = r.kind()
	r.table.Excepts = append(r.table.Excepts, x)
}

func (r *reader) shift() {
	r.room(len(r.table.Shifts), api.MaxShifts)
	day := r.date()
	s := api.Shift{Minute: day*dayMinutes + r.clock()}
	if n := len(r.table.Shifts); n > 0 {
		r.need(r.table.Shifts[n-1].Minute < s.Minute, api.ErrTableOrder)
	}
	s.Plus = r.plus()
	r.table.Shifts = append(r.table.Shifts, s)
}

// kinds takes the seven names of a week.
func (r *reader) kinds() [7]int {
	var week [7]int
	for i := range week {
		week[i] = r.kind()
	}
	return week
}

// kind takes the name of a kind that there is.
func (r *reader) kind() int {
	kind := r.kindNamed(r.name())
	r.need(kind >= 0, api.ErrTableDay)
	return kind
}

// kindNamed is the index of the kind of that name, or -1.
func (r *reader) kindNamed(name string) int {
	return slices.IndexFunc(r.table.Days, func(k api.DayKind) bool { return k.Name == name })
}
