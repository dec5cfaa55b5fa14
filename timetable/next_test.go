package timetable_test

import (
	"testing"

	"junction/api"
	"junction/timetable"
)

// calm has slot 1 in force at all times, but from day 0's begin to the end of one day, on which it is slot 2.
func calm(day int) api.Timetable {
	return api.Timetable{Name: "calm", Days: []api.DayKind{
		{Name: "a", Rows: []api.Row{{Minute: 0, Slot: 1}, {Minute: 500, Slot: 1}}},
		{Name: "b", Rows: []api.Row{{Minute: 0, Slot: 2}}},
	}, Excepts: []api.Except{{Day: day, Kind: 1}}}
}

// P18.6: two weeks ahead is the last minute that is looked at.
func TestNextAhead(t *testing.T) {
	table := calm(100)
	begin := 100 * 1440
	checkNext(t, "P18.6", table, begin-20159, begin, 2)
	checkNext(t, "P18.6", table, begin-20160, begin, 2)
	checkNext(t, "P18.6", table, begin-20161, -1, 1)
	checkNext(t, "P18.6", table, begin-1, begin, 2)
	checkNext(t, "P18.6", table, begin, begin+1440, 1)
	checkNext(t, "P18.6", table, begin+1439, begin+1440, 1)
	checkNext(t, "P18.6", table, begin+1440, -1, 1)
	checkNext(t, "P18.6", table, 0, -1, 1)
	// What a shift brings is looked at as far ahead.
	table.Excepts[0].Day = 101
	table.Shifts = []api.Shift{{Minute: begin + 700, Plus: 840}, {Minute: begin + 800, Plus: -720}}
	checkNext(t, "P18.6", table, begin+700-20160, begin+700, 2)
	checkNext(t, "P18.6", table, begin+700-20161, -1, 1)
	checkNext(t, "P18.6", table, begin+700, begin+800, 1)
	checkNext(t, "P18.6", table, begin+800, begin+1440+720, 2)
}

// P18.6: the calendar's last minute is the last that is looked at.
func TestNextAtTheEnd(t *testing.T) {
	table := calm(0)
	table.Days[0].Rows = []api.Row{{Minute: 0, Slot: 1}, {Minute: 1439, Slot: 5}}
	checkNext(t, "P18.6", table, lastMinute-2, lastMinute, 5)
	checkNext(t, "P18.6", table, lastMinute-1, lastMinute, 5)
	checkNext(t, "P18.6", table, lastMinute, -1, 5)
	checkNext(t, "P18.6", table, lastMinute-1440, lastMinute-1439, 1)
	table = calm(0)
	checkNext(t, "P18.6", table, lastMinute-1, -1, 1)
	checkNext(t, "P18.6", table, lastMinute-20160, -1, 1)
	checkNext(t, "P18.6", table, 0, 1440, 1)
	checkNext(t, "P18.6", table, 1439, 1440, 1)
	table.Shifts = []api.Shift{{Minute: lastMinute, Plus: -720}}
	table.Excepts[0].Day = lastDay
	table.Days[1].Rows[0].Minute = 1000
	checkNext(t, "P18.6", table, lastMinute-1, lastMinute, 1)
}

// P18.6: a row of the same slot, and a shift that changes nothing, are no change; a slot that comes again is told.
func TestNextNoChange(t *testing.T) {
	table := api.Timetable{Name: "a", Days: []api.DayKind{{Name: "b", Rows: []api.Row{{Minute: 10, Slot: 3}, {Minute: 20, Slot: 3}, {Minute: 30, Slot: -1}, {Minute: 40, Slot: -1}, {Minute: 50, Slot: 3}}}}, Shifts: []api.Shift{{Minute: 1440 + 15, Plus: 1}, {Minute: 2*1440 + 100, Plus: 0}}}
	for _, c := range [][3]int{{0, 10, 3}, {9, 10, 3}, {10, 30, -1}, {25, 30, -1}, {30, 50, 3}, {50, 1440 + 29, -1}, {1440 + 29, 1440 + 49, 3}, {1440 + 49, 2*1440 + 29, -1}, {2*1440 + 49, 3*1440 + 30, -1}} {
		checkNext(t, "P18.6", table, c[0], c[1], c[2])
	}
	table.Days[0].Rows = []api.Row{{Minute: 0, Slot: 4}}
	checkNext(t, "P18.6", table, 0, -1, 4)
	table.Days[0].Rows[0].Slot = -1
	checkNext(t, "P18.6", table, 500, -1, -1)
	table.Days[0].Rows[0] = api.Row{Minute: 7, Slot: 0}
	checkNext(t, "P18.6", table, 0, 7, 0)
	checkNext(t, "P18.6", table, 7, -1, 0)
}

// P18.6: where a change is undone in the minute behind it, both are told; where nothing stays of it, none is.
func TestNextShort(t *testing.T) {
	table := two()
	table.Week = [7]int{1, 1, 1, 1, 1, 1, 1}
	// The local time goes back behind the row, and comes to it again.
	table.Shifts = []api.Shift{{Minute: 1440 + 1381, Plus: -10}}
	checkSwitches(t, table, 1440+100, 2*1440+200, [2]int{1440 + 100, 4}, [2]int{1440 + 1380, 3}, [2]int{1440 + 1381, 4}, [2]int{1440 + 1390, 3}, [2]int{1440 + 1449, 4})
	checkNext(t, "P18.6", table, 1440+1380, 1440+1381, 4)
	// The local time goes over the rows 1380 and 1439 at once.
	table.Shifts = []api.Shift{{Minute: 1440 + 1300, Plus: 200}}
	checkSwitches(t, table, 1440+100, 2*1440+200, [2]int{1440 + 100, 4})
	checkNext(t, "P18.6", table, 1440+100, 2*1440+1180, 3)
}

// P18.6: along any line of Nexts go all Switches.
func TestNextAlongSwitches(t *testing.T) {
	table := parsed(t, example)
	minute := 9580 * 1440
	for i, s := range all(table, minute, minute+44640) {
		if i > 0 {
			checkNext(t, "P18.6", table, minute, s[0], s[1])
		}
		minute = s[0]
		if slot, e := timetable.At(table, minute); slot != s[1] || e != api.OK {
			t.Errorf("P18.7: %v, At is %d, %d", s, slot, e)
		}
	}
}
