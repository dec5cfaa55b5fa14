package timetable

import (
	"slices"

	"junction/api"
)

const (
	dayMinutes = 1440
	leastPlus  = -720
	mostPlus   = 840
)

// Sound tells the first thing that is wrong with a timetable.
func Sound(t api.Timetable) api.Errno {
	switch {
	case !hasNames(t):
		return api.ErrTableLine
	case !isWithinLimits(t):
		return api.ErrTableFull
	case !hasRows(t.Days):
		return api.ErrTableLack
	case !isEachOnce(t):
		return api.ErrTableTwice
	case !hasClocks(t):
		return api.ErrTableClock
	case !hasDates(t):
		return api.ErrTableDate
	case !hasKinds(t):
		return api.ErrTableDay
	case !isInOrder(t):
		return api.ErrTableOrder
	}
	return api.OK
}

func hasNames(t api.Timetable) bool {
	return isName(t.Name) && all(t.Days, func(k api.DayKind) bool { return isName(k.Name) })
}

func isWithinLimits(t api.Timetable) bool {
	return len(t.Days) <= api.MaxKinds && len(t.Seasons) <= api.MaxSeasons && len(t.Excepts) <= api.MaxExcepts && len(t.Shifts) <= api.MaxShifts &&
		all(t.Days, func(k api.DayKind) bool { return len(k.Rows) <= api.MaxRows })
}

// hasRows tells whether there are kinds of days, and each of them has a row.
func hasRows(days []api.DayKind) bool {
	return len(days) > 0 && all(days, func(k api.DayKind) bool { return len(k.Rows) > 0 })
}

func isEachOnce(t api.Timetable) bool {
	return differ(t.Days, func(k api.DayKind) string { return k.Name }) && differ(t.Excepts, func(x api.Except) int { return x.Day })
}

func hasClocks(t api.Timetable) bool {
	return all(t.Days, func(k api.DayKind) bool { return all(k.Rows, isRow) }) && all(t.Shifts, func(s api.Shift) bool { return isPlus(s.Plus) })
}

func isRow(r api.Row) bool {
	return r.Minute >= 0 && r.Minute < dayMinutes && (r.Slot == api.SlotFlash || r.Slot >= 0 && r.Slot <= api.MaxSlot)
}

func isPlus(plus int) bool { return plus >= leastPlus && plus <= mostPlus }

func hasDates(t api.Timetable) bool {
	return all(t.Seasons, func(s api.Season) bool { return isDay(s.From) && isDay(s.To) && s.From <= s.To }) &&
		all(t.Excepts, func(x api.Except) bool { return isDay(x.Day) }) &&
		all(t.Shifts, func(s api.Shift) bool { return s.Minute >= 0 && s.Minute <= api.MaxMinute })
}

func hasKinds(t api.Timetable) bool {
	isKind := func(kind int) bool { return kind >= 0 && kind < len(t.Days) }
	return all(t.Week[:], isKind) &&
		all(t.Seasons, func(s api.Season) bool { return all(s.Week[:], isKind) }) &&
		all(t.Excepts, func(x api.Except) bool { return isKind(x.Kind) })
}

func isInOrder(t api.Timetable) bool {
	return all(t.Days, func(k api.DayKind) bool { return rise(k.Rows, func(r api.Row) int { return r.Minute }) }) &&
		rise(t.Shifts, func(s api.Shift) int { return s.Minute })
}

// isName tells whether a word may be the name of a timetable or of a kind of days.
func isName(word string) bool {
	if len(word) == 0 || len(word) > api.MaxName || !isLetter(word[0]) {
		return false
	}
	for i := range len(word) {
		if b := word[i]; !isLetter(b) && !isDigit(b) && b != '_' && b != '-' {
			return false
		}
	}
	return true
}

func isLetter(b byte) bool { return b >= 'a' && b <= 'z' || b >= 'A' && b <= 'Z' }

func isDigit(b byte) bool { return b >= '0' && b <= '9' }

// all tells whether each entry is as it must be.
func all[T any](list []T, is func(T) bool) bool {
	return !slices.ContainsFunc(list, func(x T) bool { return !is(x) })
}

// differ tells whether no two entries have one key. The list is gone over once.
func differ[T any, K comparable](list []T, key func(T) K) bool {
	keys := make(map[K]struct{}, len(list))
	for _, x := range list {
		keys[key(x)] = struct{}{}
	}
	return len(keys) == len(list)
}

// rise tells whether each entry's number is above that of the one ahead of it.
func rise[T any](list []T, number func(T) int) bool {
	for i := 1; i < len(list); i++ {
		if number(list[i-1]) >= number(list[i]) {
			return false
		}
	}
	return true
}
