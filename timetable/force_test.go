package timetable_test

import (
	"math"
	"math/rand"
	"testing"

	"junction/api"
	"junction/timetable"
)

// two has two kinds, early (slots 1 and 2) and late (slots 3 and 4), whose first rows come behind the day's begin.
func two() api.Timetable {
	return api.Timetable{Name: "two", Days: []api.DayKind{
		{Name: "early", Rows: []api.Row{{Minute: 60, Slot: 1}, {Minute: 120, Slot: 2}}},
		{Name: "late", Rows: []api.Row{{Minute: 1380, Slot: 3}, {Minute: 1439, Slot: 4}}},
	}}
}

// The chapter's examples, and example 10 of the whole.
func TestForceExamples(t *testing.T) {
	table := parsed(t, example)
	for _, c := range [][2]int{{0, -1}, {479, -1}, {480, 1}, {9814*1440 + 479, -1}, {9814*1440 + 480, 1}, {9816*1440 + 389, 1}, {9816*1440 + 390, 2}, {9817*1440 + 389, -1}, {9817*1440 + 390, 2}} {
		checkAt(t, "P18.5", table, c[0], c[1])
	}
	if kind, e := timetable.KindOf(table, 9814); kind != 1 || e != api.OK {
		t.Errorf("P18.5: KindOf = %d, %d", kind, e)
	}
	if m, e := timetable.Local(table, 9600*1440); m != 9600*1440+60 || e != api.OK {
		t.Errorf("P18.5: Local = %d, %d", m, e)
	}
	checkNext(t, "P18.6", table, 9816*1440+390, 9816*1440+1320, -1)
}

// P18.5, P18.6: what is outside the calendar.
func TestWhen(t *testing.T) {
	for _, table := range []api.Timetable{two(), parsed(t, example), {Name: "a", Days: two().Days, Shifts: []api.Shift{{Plus: 60}}}, {Name: "a", Days: two().Days, Shifts: []api.Shift{{Plus: -60}}}} {
		for _, minute := range []int{-1, lastMinute + 1, -60, lastMinute + 60, math.MinInt, math.MaxInt, 1 << 32, math.MinInt32, math.MaxInt32} {
			if m, e := timetable.Local(table, minute); m != 0 || e != api.ErrTableWhen {
				t.Errorf("P18.5: Local(%d) = %d, %d", minute, m, e)
			}
			if slot, e := timetable.At(table, minute); slot != 0 || e != api.ErrTableWhen {
				t.Errorf("P18.5: At(%d) = %d, %d", minute, slot, e)
			}
			if m, slot, e := timetable.Next(table, minute); m != 0 || slot != 0 || e != api.ErrTableWhen {
				t.Errorf("P18.6: Next(%d) = %d, %d, %d", minute, m, slot, e)
			}
		}
		for _, day := range []int{-1, lastDay + 1, lastMinute, math.MinInt, math.MaxInt, 1 << 32} {
			if kind, e := timetable.KindOf(table, day); kind != 0 || e != api.ErrTableWhen {
				t.Errorf("P18.5: KindOf(%d) = %d, %d", day, kind, e)
			}
		}
		for _, minute := range []int{0, lastMinute} {
			if _, e := timetable.At(table, minute); e != api.OK {
				t.Errorf("P18.5: At(%d): %d", minute, e)
			}
			if _, e := timetable.Local(table, minute); e != api.OK {
				t.Errorf("P18.5: Local(%d): %d", minute, e)
			}
		}
		for _, day := range []int{0, lastDay} {
			if _, e := timetable.KindOf(table, day); e != api.OK {
				t.Errorf("P18.5: KindOf(%d): %d", day, e)
			}
		}
	}
}

// P18.5: ahead of a day's first row the last row of the day ahead is in force; on day 0 nothing is.
func TestMissingRow(t *testing.T) {
	table := two()
	table.Week = [7]int{0, 1, 0, 1, 0, 1, 0} // day 0 is late, day 1 early, day 2 early, day 3 late
	for _, c := range [][2]int{
		{0, -1}, {1379, -1}, {1380, 3}, {1438, 3}, {1439, 4},
		{1440, 4}, {1440 + 59, 4}, {1440 + 60, 1}, {1440 + 119, 1}, {1440 + 120, 2}, {2*1440 - 1, 2},
		{2 * 1440, 2}, {2*1440 + 59, 2}, {2*1440 + 60, 1}, {3 * 1440, 2}, {3*1440 + 1379, 2}, {3*1440 + 1380, 3}, {4 * 1440, 4},
	} {
		checkAt(t, "P18.5", table, c[0], c[1])
	}
	// A row at the day's begin.
	table.Days[0].Rows[0].Minute = 0
	checkAt(t, "P18.5", table, 1439, 4)
	checkAt(t, "P18.5", table, 1440, 1)
	table.Week[5] = 0
	checkAt(t, "P18.5", table, 0, 1)
	// A row at the day's last minute.
	checkAt(t, "P18.5", table, lastMinute-1, 1+1)
	table.Week = [7]int{1, 1, 1, 1, 1, 1, 1}
	checkAt(t, "P18.5", table, lastMinute-1, 3)
	checkAt(t, "P18.5", table, lastMinute, 4)
}

// P18.5: Local, ahead of shifts, at each of them, and where it would leave the calendar.
func TestLocal(t *testing.T) {
	table := two()
	table.Shifts = []api.Shift{{Minute: 100, Plus: 840}, {Minute: 200, Plus: -720}, {Minute: 300, Plus: 0}, {Minute: 301, Plus: 1}, {Minute: lastMinute - 900, Plus: 840}, {Minute: lastMinute, Plus: -720}}
	for _, c := range [][2]int{
		{0, 0}, {99, 99}, {100, 940}, {199, 1039}, {200, 0}, {299, 0}, {300, 300}, {301, 302}, {1440, 1441},
		{lastMinute - 901, lastMinute - 900}, {lastMinute - 900, lastMinute - 60}, {lastMinute - 841, lastMinute - 1}, {lastMinute - 840, lastMinute}, {lastMinute - 839, lastMinute}, {lastMinute - 1, lastMinute}, {lastMinute, lastMinute - 720},
	} {
		if m, e := timetable.Local(table, c[0]); m != c[1] || e != api.OK {
			t.Errorf("P18.5: Local(%d) = %d, %d, want %d", c[0], m, e, c[1])
		}
	}
	table.Shifts = []api.Shift{{Minute: 0, Plus: -720}}
	for _, c := range [][2]int{{0, 0}, {719, 0}, {720, 0}, {721, 1}, {lastMinute, lastMinute - 720}} {
		if m, e := timetable.Local(table, c[0]); m != c[1] || e != api.OK {
			t.Errorf("P18.5: Local(%d) = %d, %d, want %d", c[0], m, e, c[1])
		}
	}
}

// P18.5: a shift takes the local time over midnight, both ways.
func TestShiftOverMidnight(t *testing.T) {
	table := two()
	table.Week = [7]int{1, 0, 0, 0, 0, 0, 0} // day 2 is late, day 3 early
	table.Shifts = []api.Shift{{Minute: 3*1440 - 30, Plus: 120}, {Minute: 3*1440 + 10, Plus: -60}}
	for _, c := range [][2]int{{3*1440 - 60, 3}, {3*1440 - 31, 3}, {3*1440 - 30, 1}, {3*1440 - 1, 1}, {3 * 1440, 2}, {3*1440 + 9, 2}, {3*1440 + 10, 3}, {3*1440 + 58, 3}, {3*1440 + 59, 4}, {3*1440 + 60, 4}, {3*1440 + 119, 4}, {3*1440 + 120, 1}} {
		checkAt(t, "P18.5", table, c[0], c[1])
	}
	list := [][2]int{{3*1440 - 100, 2}, {3*1440 - 60, 3}, {3*1440 - 30, 1}, {3 * 1440, 2}, {3*1440 + 10, 3}, {3*1440 + 59, 4}, {3*1440 + 120, 1}, {3*1440 + 180, 2}}
	checkSwitches(t, table, list[0][0], 3*1440+181, list...)
}

// P18.5: shifts at both ends of the calendar.
func TestShiftAtTheEnds(t *testing.T) {
	table := two()
	table.Shifts = []api.Shift{{Minute: 0, Plus: -30}}
	for _, c := range [][2]int{{0, -1}, {30, -1}, {89, -1}, {90, 1}, {149, 1}, {150, 2}, {1440 + 89, 2}, {1440 + 90, 1}} {
		checkAt(t, "P18.5", table, c[0], c[1])
	}
	table.Shifts = []api.Shift{{Minute: 0, Plus: 120}}
	checkAt(t, "P18.5", table, 0, 2)
	checkAt(t, "P18.5", table, lastMinute, 2)
	// Day 0 is early, the last one (a Friday) late.
	table.Week = [7]int{0, 0, 0, 0, 1, 0, 0}
	for _, c := range [][2]int{{lastMinute - 180, 2}, {lastMinute - 179, 3}, {lastMinute - 121, 3}, {lastMinute - 120, 4}, {lastMinute, 4}} {
		checkAt(t, "P18.5", table, c[0], c[1])
	}
	checkSwitches(t, table, lastMinute-200, lastMinute, [2]int{lastMinute - 200, 2}, [2]int{lastMinute - 179, 3}, [2]int{lastMinute - 120, 4})
	// A local time that is cut off at the first minute has a row of that minute in force.
	table.Days[0].Rows[0].Minute = 0
	table.Shifts = []api.Shift{{Minute: 0, Plus: -720}}
	checkSwitches(t, table, 0, 1000, [2]int{0, 1}, [2]int{720 + 120, 2})
	checkNext(t, "P18.6", table, 0, 840, 2)
	table.Shifts = []api.Shift{{Minute: lastMinute, Plus: 840}}
	checkNext(t, "P18.6", table, lastMinute-1, lastMinute, 4)
	checkAt(t, "P18.5", table, lastMinute, 4)
}

// P18.5: which kind a day is of: Excepts go ahead of Seasons, the last Season ahead of the others, all of them ahead of the week.
func TestKindOf(t *testing.T) {
	table := api.Timetable{Name: "a", Week: [7]int{0, 1, 2, 3, 4, 5, 6}}
	for i := range 16 {
		table.Days = append(table.Days, api.DayKind{Name: string(rune('a' + i)), Rows: []api.Row{{Slot: 1}}})
	}
	table.Seasons = []api.Season{
		{From: 110, To: 115, Week: [7]int{7, 7, 7, 7, 7, 7, 7}}, // within the next one, and ahead of it in the list: it is never in force
		{From: 100, To: 199, Week: [7]int{8, 8, 8, 8, 8, 8, 9}},
		{From: 120, To: 130, Week: [7]int{10, 10, 10, 10, 10, 10, 11}}, // within the one above
		{From: 125, To: 125, Week: [7]int{12, 12, 12, 12, 12, 12, 12}},
		{From: 190, To: 210, Week: [7]int{13, 13, 13, 13, 13, 13, 13}},
		{From: lastDay, To: lastDay, Week: [7]int{14, 14, 14, 14, 14, 14, 14}},
	}
	table.Excepts = []api.Except{{Day: 125, Kind: 15}, {Day: 150, Kind: 0}, {Day: 300, Kind: 15}, {Day: 0, Kind: 9}, {Day: lastDay - 1, Kind: 9}}
	for _, c := range [][2]int{
		{0, 9}, {1, 6}, {2, 0}, {3, 1}, {8, 6}, {98, 5}, {99, 6}, {100, 8}, {105, 8}, {106, 9}, {109, 8}, {110, 8}, {113, 9}, {115, 8}, {119, 8},
		{120, 11}, {121, 10}, {124, 10}, {125, 15}, {126, 10}, {127, 11}, {130, 10}, {131, 8}, {149, 8}, {150, 0}, {151, 8},
		{189, 8}, {190, 13}, {199, 13}, {200, 13}, {210, 13}, {211, 6}, {212, 0}, {299, 3}, {300, 15}, {301, 5}, {lastDay - 1, 9}, {lastDay, 14}, {lastDay - 2, 2},
	} {
		if kind, e := timetable.KindOf(table, c[0]); kind != c[1] || e != api.OK {
			t.Errorf("P18.5: KindOf(%d) = %d, %d, want %d", c[0], kind, e, c[1])
		}
	}
	table.Excepts = nil
	if kind, e := timetable.KindOf(table, 125); kind != 12 || e != api.OK {
		t.Errorf("P18.5: KindOf(125) = %d, %d, want 12", kind, e)
	}
}

// P18.5: Seasons and Excepts are those of the local day, and of the day ahead of it.
func TestLocalDay(t *testing.T) {
	table := two()
	table.Excepts = []api.Except{{Day: 10, Kind: 1}}
	table.Seasons = []api.Season{{From: 20, To: 20, Week: [7]int{1, 1, 1, 1, 1, 1, 1}}}
	table.Shifts = []api.Shift{{Minute: 0, Plus: 60}}
	for _, day := range []int{10, 20} {
		begin := day*1440 - 60 // of the local day
		for _, c := range [][2]int{{begin - 1, 2}, {begin, 2}, {begin + 1379, 2}, {begin + 1380, 3}, {begin + 1439, 4}, {begin + 1440, 4}, {begin + 1499, 4}, {begin + 1500, 1}} {
			checkAt(t, "P18.5", table, c[0], c[1])
		}
	}
}

// P18.5 to P18.7: any timetables, held against a second way.
func TestForceAgainstModel(t *testing.T) {
	t.Parallel()
	changes := 0
	for seed := range int64(400) {
		r := rand.New(rand.NewSource(seed))
		about := anyDay(r)
		table := anyTable(r, about)
		m := newModel(table)
		first := min(max(0, about-18), lastDay-40) * 1440
		for range 3000 {
			minute := min(first+r.Intn(36*1440), lastMinute)
			want := m.at(minute)
			if slot, e := timetable.At(table, minute); slot != want || e != api.OK {
				t.Fatalf("P18.5: seed %d: At(%d) = %d, %d, want %d of %+v", seed, minute, slot, e, want, table)
			}
			if local, e := timetable.Local(table, minute); local != modelLocal(table, minute) || e != api.OK {
				t.Fatalf("P18.5: seed %d: Local(%d) = %d, %d", seed, minute, local, e)
			}
			if kind, e := timetable.KindOf(table, minute/1440); kind != modelKind(table, minute/1440) || e != api.OK {
				t.Fatalf("P18.5: seed %d: KindOf(%d) = %d, %d", seed, minute/1440, kind, e)
			}
		}
		for range 10 {
			minute := min(first+r.Intn(36*1440), lastMinute)
			next, slot := m.next(minute)
			if n, s, e := timetable.Next(table, minute); n != next || s != slot || e != api.OK {
				t.Fatalf("P18.6: seed %d: Next(%d) = %d, %d, %d, want %d, %d of %+v", seed, minute, n, s, e, next, slot, table)
			}
		}
		from := first + r.Intn(1440)
		to := min(from+1+r.Intn(44640), lastMinute)
		want := m.switches(from, to)
		checkSwitches(t, table, from, to, want...)
		changes += len(want)
	}
	if changes < 10000 {
		t.Errorf("%d switches alone", changes)
	}
}
