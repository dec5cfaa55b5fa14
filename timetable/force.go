package timetable

import (
	"iter"
	"slices"

	"junction/api"
)

// All that stands here is given sound timetables, and minutes and days of the calendar.

// plusAt is the shift at a minute.
func plusAt(shifts []api.Shift, minute int) int {
	plus := 0
	for _, s := range shifts {
		if s.Minute <= minute {
			plus = s.Plus
		}
	}
	return plus
}

// localOf is the local time, which does not leave the calendar.
func localOf(minute, plus int) int { return min(max(minute+plus, 0), api.MaxMinute) }

func kindOf(t api.Timetable, day int) int {
	for _, x := range t.Excepts {
		if x.Day == day {
			return x.Kind
		}
	}
	week := t.Week
	for _, s := range t.Seasons {
		if s.From <= day && day <= s.To {
			week = s.Week
		}
	}
	return week[weekday(day)]
}

func rowsOf(t api.Timetable, day int) []api.Row { return t.Days[kindOf(t, day)].Rows }

func slotAt(t api.Timetable, minute int) int {
	local := localOf(minute, plusAt(t.Shifts, minute))
	day, clock := local/dayMinutes, local%dayMinutes
	rows := rowsOf(t, day)
	for i := len(rows) - 1; i >= 0; i-- {
		if rows[i].Minute <= clock {
			return rows[i].Slot
		}
	}
	if day == 0 {
		return api.SlotFlash
	}
	rows = rowsOf(t, day-1)
	return rows[len(rows)-1].Slot
}

// changes gives, rising, the minutes between two others at which the slot may change: those of shifts, and those of rows in local time. A day's begin alone is none: what the day ahead has left in force goes on.
func changes(t api.Timetable, behind, ahead int) iter.Seq[int] {
	return func(yield func(int) bool) {
		for s := range stretches(t.Shifts) {
			if behind < s.begin && s.begin < ahead && !yield(s.begin) {
				return
			}
			for m := range rowMinutes(t, max(behind, s.begin)+1, min(ahead, s.end)-1, s.plus) {
				if !yield(m) {
					return
				}
			}
		}
	}
}

// stretch is a time in which the shift stays as it is.
type stretch struct {
	begin, end int // its first minute, and the one behind its last
	plus       int
}

// stretches gives those into which shifts part the calendar. A shift at its first minute has an empty one ahead of it.
func stretches(shifts []api.Shift) iter.Seq[stretch] {
	return func(yield func(stretch) bool) {
		var s stretch
		for _, next := range shifts {
			s.end = next.Minute
			if !yield(s) {
				return
			}
			s = stretch{begin: next.Minute, plus: next.Plus}
		}
		s.end = api.MaxMinute + 1
		yield(s)
	}
}

// rowMinutes gives, rising, the minutes from first to last at which a row's local time comes, where the shift stays.
func rowMinutes(t api.Timetable, first, last, plus int) iter.Seq[int] {
	return func(yield func(int) bool) {
		for day := localOf(first, plus) / dayMinutes; day <= localOf(last, plus)/dayMinutes; day++ {
			for _, row := range rowsOf(t, day) {
				m := day*dayMinutes + row.Minute - plus
				if first <= m && m <= last && !yield(m) {
					return
				}
			}
		}
	}
}

// copied is a timetable of which nothing changes if the other one is written into.
func copied(t api.Timetable) api.Timetable {
	t.Days = slices.Clone(t.Days)
	for i := range t.Days {
		t.Days[i].Rows = slices.Clone(t.Days[i].Rows)
	}
	t.Seasons, t.Excepts, t.Shifts = slices.Clone(t.Seasons), slices.Clone(t.Excepts), slices.Clone(t.Shifts)
	return t
}
