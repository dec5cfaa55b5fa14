package timetable_test

import (
	"math/rand"
	"testing"

	"junction/api"
	"junction/timetable"
)

// plain is a timetable without its Seasons, Excepts and Shifts.
func plain(t api.Timetable) api.Timetable {
	t.Seasons, t.Excepts, t.Shifts = nil, nil, nil
	return t
}

func checkWeekLater(t *testing.T, table api.Timetable, minute int) {
	t.Helper()
	slot, e := timetable.At(table, minute)
	later, f := timetable.At(table, minute+aWeek)
	if slot != later || e != api.OK || f != api.OK {
		t.Fatalf("P18.8: At(%d) = %d, %d, a week later %d, %d of %+v", minute, slot, e, later, f, table)
	}
}

// P18.8: the same a week later, from the second day on, up to the last minute.
func TestWeekLater(t *testing.T) {
	t.Parallel()
	r := rand.New(rand.NewSource(188))
	for range 300 {
		table := plain(anyTable(r, anyDay(r)))
		for _, minute := range []int{1440, 1441, 2879, 2880, 10079, 10080, lastMinute - aWeek - 1, lastMinute - aWeek} {
			checkWeekLater(t, table, minute)
		}
		for range 300 {
			checkWeekLater(t, table, 1440+r.Intn(lastMinute-aWeek-1439))
		}
	}
}

// P18.8: each minute of a week.
func TestEachMinuteLater(t *testing.T) {
	t.Parallel()
	for _, table := range []api.Timetable{plain(parsed(t, example)), plain(two()), plain(fullTable())} {
		for minute := 1440; minute < 1440+aWeek; minute++ {
			checkWeekLater(t, table, minute)
		}
	}
	// On day 0 no day is ahead, so it is another matter; a week later one is.
	checkAt(t, "P18.8", plain(parsed(t, example)), 0, -1)
	table := two()
	checkAt(t, "P18.5", table, 0, -1)
	checkAt(t, "P18.5", table, aWeek, 2)
}

// Switches, Next and At tell the same: between two switches At stays, and at each of them Next from the one ahead ends.
func TestCallsAgree(t *testing.T) {
	t.Parallel()
	for seed := range int64(60) {
		r := rand.New(rand.NewSource(seed))
		about := anyDay(r)
		table := anyTable(r, about)
		from := min(about*1440, lastMinute-44641)
		minute, slot := from, 0
		for m, s := range timetable.Switches(table, from, from+3000) {
			if m > from {
				checkNext(t, "P18.6", table, minute, m, s)
				checkNext(t, "P18.6", table, m-1, m, s)
				checkAt(t, "P18.7", table, m-1, slot)
			}
			checkAt(t, "P18.7", table, m, s)
			minute, slot = m, s
		}
		if m, _, e := timetable.Next(table, minute); e != api.OK || m >= 0 && m < from+3000 {
			t.Errorf("P18.7: the last one is %d, Next is %d, %d", minute, m, e)
		}
	}
}
