package timetable_test

import (
	"fmt"
	"regexp"
	"slices"
	"strconv"
	"strings"
	"time"

	"junction/api"
)

// The chapter a second time, in another way: dates are those of package time, words are found and known by regular expressions, what is in force is told minute by minute.

var (
	wordForm   = regexp.MustCompile(`[^ \t\r#]+`)
	nameForm   = regexp.MustCompile(`^[A-Za-z][A-Za-z0-9_-]{0,31}$`)
	clockForm  = regexp.MustCompile(`^([01][0-9]|2[0-3]):[0-5][0-9]$`)
	dateForm   = regexp.MustCompile(`^2[0-3][0-9]{2}-[0-9]{2}-[0-9]{2}$`)
	signedForm = regexp.MustCompile(`^[+-][0-9]{1,3}$`)
	slotForm   = regexp.MustCompile(`^[0-7]$`)
)

var firstDay = time.Date(2000, 1, 1, 0, 0, 0, 0, time.UTC)

// modelDate is the date of a day, and its weekday, Monday first.
func modelDate(day int) (year, month, monthDay, weekday int) {
	d := firstDay.AddDate(0, 0, day)
	return d.Year(), int(d.Month()), d.Day(), (int(d.Weekday()) + 6) % 7
}

// modelKind goes backward: what overrules is found first.
func modelKind(t api.Timetable, day int) int {
	for _, x := range t.Excepts {
		if x.Day == day {
			return x.Kind
		}
	}
	_, _, _, weekday := modelDate(day)
	for _, s := range slices.Backward(t.Seasons) {
		if s.From <= day && day <= s.To {
			return s.Week[weekday]
		}
	}
	return t.Week[weekday]
}

func modelLocal(t api.Timetable, minute int) int {
	plus := 0
	for _, s := range slices.Backward(t.Shifts) {
		if s.Minute <= minute {
			plus = s.Plus
			break
		}
	}
	return min(max(0, minute+plus), 210379679)
}

// modelSlots are those of all minutes of a day.
func modelSlots(t api.Timetable, day int) *[1440]int {
	slot := -1
	if day > 0 {
		rows := t.Days[modelKind(t, day-1)].Rows
		slot = rows[len(rows)-1].Slot
	}
	var all [1440]int
	rows := t.Days[modelKind(t, day)].Rows
	for m := range all {
		for _, row := range rows {
			if row.Minute == m {
				slot = row.Slot
			}
		}
		all[m] = slot
	}
	return &all
}

// model keeps the days that it has been asked for.
type model struct {
	table api.Timetable
	days  map[int]*[1440]int
}

func newModel(t api.Timetable) *model { return &model{table: t, days: map[int]*[1440]int{}} }

func (m *model) at(minute int) int {
	local := modelLocal(m.table, minute)
	day, ok := m.days[local/1440]
	if !ok {
		day = modelSlots(m.table, local/1440)
		m.days[local/1440] = day
	}
	return day[local%1440]
}

func (m *model) next(minute int) (int, int) {
	for n := minute + 1; n <= minute+20160 && n <= 210379679; n++ {
		if m.at(n) != m.at(n-1) {
			return n, m.at(n)
		}
	}
	return -1, m.at(minute)
}

func (m *model) switches(from, to int) [][2]int {
	list := [][2]int{{from, m.at(from)}}
	for n := from + 1; n < to; n++ {
		if m.at(n) != m.at(n-1) {
			list = append(list, [2]int{n, m.at(n)})
		}
	}
	return list
}

func modelWeek(t api.Timetable, week [7]int) string {
	text := ""
	for _, kind := range week {
		text += " " + t.Days[kind].Name
	}
	return text
}

func modelDateText(day int) string {
	year, month, monthDay, _ := modelDate(day)
	return fmt.Sprintf("%04d-%02d-%02d", year, month, monthDay)
}

func modelPrint(t api.Timetable) string {
	text := fmt.Sprintf("timetable %s\n", t.Name)
	for _, k := range t.Days {
		text += fmt.Sprintf("day %s\n", k.Name)
		for _, row := range k.Rows {
			what := fmt.Sprintf("slot %d", row.Slot)
			if row.Slot == -1 {
				what = "flash"
			}
			text += fmt.Sprintf("  at %02d:%02d %s\n", row.Minute/60, row.Minute%60, what)
		}
	}
	text += fmt.Sprintf("week%s\n", modelWeek(t, t.Week))
	for _, s := range t.Seasons {
		text += fmt.Sprintf("season %s %s%s\n", modelDateText(s.From), modelDateText(s.To), modelWeek(t, s.Week))
	}
	for _, x := range t.Excepts {
		text += fmt.Sprintf("on %s %s\n", modelDateText(x.Day), t.Days[x.Kind].Name)
	}
	for _, s := range t.Shifts {
		text += fmt.Sprintf("shift %s %02d:%02d %+d\n", modelDateText(s.Minute/1440), s.Minute%1440/60, s.Minute%60, s.Plus)
	}
	return text
}

// modelSound gathers all errors, and tells the one that the table has first.
func modelSound(t api.Timetable) api.Errno {
	found := map[api.Errno]bool{}
	blame := func(e api.Errno, wrong bool) { found[e] = found[e] || wrong }
	kinds := func(list ...int) {
		for _, kind := range list {
			blame(api.ErrTableDay, kind < 0 || kind >= len(t.Days))
		}
	}
	blame(api.ErrTableLine, !nameForm.MatchString(t.Name))
	blame(api.ErrTableFull, len(t.Days) > 16 || len(t.Seasons) > 16 || len(t.Excepts) > 64 || len(t.Shifts) > 16)
	blame(api.ErrTableLack, len(t.Days) == 0)
	for i, k := range t.Days {
		blame(api.ErrTableLine, !nameForm.MatchString(k.Name))
		blame(api.ErrTableFull, len(k.Rows) > 48)
		blame(api.ErrTableLack, len(k.Rows) == 0)
		for _, other := range t.Days[:i] {
			blame(api.ErrTableTwice, other.Name == k.Name)
		}
		for j, row := range k.Rows {
			blame(api.ErrTableClock, row.Minute < 0 || row.Minute > 1439 || row.Slot < -1 || row.Slot > 7)
			blame(api.ErrTableOrder, j > 0 && k.Rows[j-1].Minute >= row.Minute)
		}
	}
	kinds(t.Week[:]...)
	for _, s := range t.Seasons {
		blame(api.ErrTableDate, s.From < 0 || s.From > s.To || s.To > 146096)
		kinds(s.Week[:]...)
	}
	for i, x := range t.Excepts {
		blame(api.ErrTableDate, x.Day < 0 || x.Day > 146096)
		kinds(x.Kind)
		for _, other := range t.Excepts[:i] {
			blame(api.ErrTableTwice, other.Day == x.Day)
		}
	}
	for i, s := range t.Shifts {
		blame(api.ErrTableClock, s.Plus < -720 || s.Plus > 840)
		blame(api.ErrTableDate, s.Minute < 0 || s.Minute > 210379679)
		blame(api.ErrTableOrder, i > 0 && t.Shifts[i-1].Minute >= s.Minute)
	}
	for _, e := range []api.Errno{api.ErrTableLine, api.ErrTableFull, api.ErrTableLack, api.ErrTableTwice, api.ErrTableClock, api.ErrTableDate, api.ErrTableDay, api.ErrTableOrder} {
		if found[e] {
			return e
		}
	}
	return api.OK
}

// modelText reads a text; a fault is thrown.
type modelText struct {
	table    api.Timetable
	named    bool
	weeks    int
	number   int
	words    []string
	columns  []int // of the words, and the one behind the last
	position int
}

func modelParse(text string) (t api.Timetable, f api.Fault) {
	if len(text) > 65536 {
		return t, api.Fault{Code: api.ErrTableSource}
	}
	defer func() {
		if thrown := recover(); thrown != nil {
			t, f = api.Timetable{}, thrown.(api.Fault)
		}
	}()
	m := &modelText{}
	for i, line := range strings.Split(text, "\n") {
		m.line(i+1, line)
	}
	lacks := !m.named || m.weeks == 0 || len(m.table.Days) == 0
	for _, k := range m.table.Days {
		lacks = lacks || len(k.Rows) == 0
	}
	if lacks {
		panic(api.Fault{Code: api.ErrTableLack})
	}
	return m.table, api.Fault{}
}

func (m *modelText) line(number int, line string) {
	line = strings.Split(line, "#")[0]
	m.number, m.words, m.columns, m.position = number, nil, nil, 0
	for _, place := range wordForm.FindAllStringIndex(line, -1) {
		m.words = append(m.words, line[place[0]:place[1]])
		m.columns = append(append(m.columns[:len(m.words)-1:len(m.words)-1], place[0]+1), place[1]+1)
	}
	if len(m.words) == 0 {
		return
	}
	first := m.take()
	m.refuse(m.named == (first == "timetable"), api.ErrTableLine)
	m.named = true
	switch first {
	case "timetable":
		m.table.Name = m.match(nameForm, api.ErrTableLine)
	case "day":
		m.day()
	case "at":
		m.row()
	case "week":
		m.refuse(m.weeks > 0, api.ErrTableTwice)
		m.weeks++
		m.table.Week = m.week()
	case "season":
		m.season()
	case "on":
		m.except()
	case "shift":
		m.shift()
	default:
		m.refuse(true, api.ErrTableLine)
	}
	if m.position < len(m.words) {
		m.position++
		m.refuse(true, api.ErrTableLine)
	}
}

// take is the next word.
func (m *modelText) take() string {
	if m.position == len(m.words) {
		panic(api.Fault{Code: api.ErrTableLine, At: api.Pos{Line: m.number, Col: m.columns[m.position]}})
	}
	m.position++
	return m.words[m.position-1]
}

// refuse throws a fault at the word that was taken last.
func (m *modelText) refuse(wrong bool, e api.Errno) {
	if wrong {
		panic(api.Fault{Code: e, At: api.Pos{Line: m.number, Col: m.columns[m.position-1]}})
	}
}

func (m *modelText) match(form *regexp.Regexp, e api.Errno) string {
	word := m.take()
	m.refuse(!form.MatchString(word), e)
	return word
}

func (m *modelText) date() int {
	date, err := time.Parse(time.DateOnly, m.match(dateForm, api.ErrTableDate))
	m.refuse(err != nil, api.ErrTableDate)
	return int(date.Unix()-firstDay.Unix()) / 86400
}

func (m *modelText) clock() int {
	word := m.match(clockForm, api.ErrTableClock)
	clock, err := time.Parse("15:04", word)
	m.refuse(err != nil, api.ErrTableClock)
	return clock.Hour()*60 + clock.Minute()
}

func (m *modelText) kind() int {
	name := m.match(nameForm, api.ErrTableLine)
	for i, k := range m.table.Days {
		if k.Name == name {
			return i
		}
	}
	m.refuse(true, api.ErrTableDay)
	return 0
}

func (m *modelText) week() (week [7]int) {
	for i := range 7 {
		week[i] = m.kind()
	}
	return week
}

func (m *modelText) day() {
	m.refuse(len(m.table.Days) == 16, api.ErrTableFull)
	name := m.match(nameForm, api.ErrTableLine)
	for _, k := range m.table.Days {
		m.refuse(k.Name == name, api.ErrTableTwice)
	}
	m.table.Days = append(m.table.Days, api.DayKind{Name: name})
}

func (m *modelText) row() {
	m.refuse(len(m.table.Days) == 0, api.ErrTableLine)
	kind := &m.table.Days[len(m.table.Days)-1]
	m.refuse(len(kind.Rows) == 48, api.ErrTableFull)
	minute := m.clock()
	for _, row := range kind.Rows {
		m.refuse(row.Minute >= minute, api.ErrTableOrder)
	}
	slot := -1
	if word := m.take(); word == "slot" {
		slot, _ = strconv.Atoi(m.match(slotForm, api.ErrTableLine))
	} else {
		m.refuse(word != "flash", api.ErrTableLine)
	}
	kind.Rows = append(kind.Rows, api.Row{Minute: minute, Slot: slot})
}

func (m *modelText) season() {
	m.refuse(len(m.table.Seasons) == 16, api.ErrTableFull)
	from := m.date()
	to := m.date()
	m.refuse(to < from, api.ErrTableDate)
	m.table.Seasons = append(m.table.Seasons, api.Season{From: from, To: to, Week: m.week()})
}

func (m *modelText) except() {
	m.refuse(len(m.table.Excepts) == 64, api.ErrTableFull)
	day := m.date()
	for _, x := range m.table.Excepts {
		m.refuse(x.Day == day, api.ErrTableTwice)
	}
	m.table.Excepts = append(m.table.Excepts, api.Except{Day: day, Kind: m.kind()})
}

func (m *modelText) shift() {
	m.refuse(len(m.table.Shifts) == 16, api.ErrTableFull)
	minute := m.date()*1440 + m.clock()
	for _, s := range m.table.Shifts {
		m.refuse(s.Minute >= minute, api.ErrTableOrder)
	}
	plus, _ := strconv.Atoi(m.match(signedForm, api.ErrTableLine))
	m.refuse(plus < -720 || plus > 840, api.ErrTableClock)
	m.table.Shifts = append(m.table.Shifts, api.Shift{Minute: minute, Plus: plus})
}
