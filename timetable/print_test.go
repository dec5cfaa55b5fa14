package timetable_test

import (
	"math/rand"
	"strings"
	"testing"

	"junction/api"
	"junction/timetable"
)

// checkPrint looks at the text of a sound timetable, and whether it is read as the same.
func checkPrint(t *testing.T, table api.Timetable, want string) {
	t.Helper()
	text, e := timetable.Print(table)
	if text != want || e != api.OK {
		t.Errorf("P18.2: Print: %d, %q, want %q", e, text, want)
	}
	back, f := timetable.Parse(text)
	if f != (api.Fault{}) || !same(back, table) {
		t.Errorf("P18.2: Parse of Print: %v, %+v, want %+v", f, back, table)
	}
}

// P18.2: the chapter's timetable.
func TestPrintExample(t *testing.T) { checkPrint(t, parsed(t, example), example) }

// P18.2: all kinds of lines, in the lists' order.
func TestPrintLines(t *testing.T) {
	checkPrint(t, api.Timetable{
		Name: "Main-1_x",
		Days: []api.DayKind{
			{Name: "z", Rows: []api.Row{{Minute: 0, Slot: 0}, {Minute: 9, Slot: 7}, {Minute: 605, Slot: -1}, {Minute: 1439, Slot: 3}}},
			{Name: "day", Rows: []api.Row{{Minute: 60, Slot: -1}}},
		},
		Week:    [7]int{1, 0, 0, 0, 0, 0, 1},
		Seasons: []api.Season{{From: 146096, To: 146096, Week: [7]int{0, 1, 1, 1, 1, 1, 1}}, {From: 0, To: 146096}},
		Excepts: []api.Except{{Day: 9855, Kind: 1}, {Day: 0, Kind: 0}, {Day: 59, Kind: 1}},
		Shifts:  []api.Shift{{Minute: 0, Plus: -720}, {Minute: 1, Plus: 0}, {Minute: 1440 + 601, Plus: 5}, {Minute: 3000, Plus: -60}, {Minute: 210379679, Plus: 840}},
	}, lines("timetable Main-1_x", "day z", "  at 00:00 slot 0", "  at 00:09 slot 7", "  at 10:05 flash", "  at 23:59 slot 3", "day day", "  at 01:00 flash",
		"week day z z z z z day", "season 2399-12-31 2399-12-31 z day day day day day day", "season 2000-01-01 2399-12-31 z z z z z z z",
		"on 2026-12-25 day", "on 2000-01-01 z", "on 2000-02-29 day",
		"shift 2000-01-01 00:00 -720", "shift 2000-01-01 00:01 +0", "shift 2000-01-02 10:01 +5", "shift 2000-01-03 02:00 -60", "shift 2399-12-31 23:59 +840"))
	checkPrint(t, api.Timetable{Name: "a", Days: []api.DayKind{{Name: "b", Rows: []api.Row{{}}}}}, "timetable a\nday b\n  at 00:00 slot 0\nweek b b b b b b b\n")
}

// P18.2: the longest text that there is can be read.
func TestPrintFull(t *testing.T) {
	table := fullTable()
	checkPrint(t, table, modelPrint(table))
	if text, _ := timetable.Print(table); len(text) < 20000 || len(text) > 65536 {
		t.Errorf("P18.2: %d bytes", len(text))
	}
}

// P18.2: nothing is printed of what is not sound. (TestBreaks has all other ways.)
func TestPrintUnsound(t *testing.T) {
	for _, table := range []api.Timetable{{}, {Name: "a"}, {Name: "a\nday b"}, {Name: "a", Days: []api.DayKind{{Name: "b"}}}} {
		if text, e := timetable.Print(table); text != "" || e != timetable.Sound(table) || e == api.OK {
			t.Errorf("P18.2: %q, %d", text, e)
		}
	}
}

// P18.2: any timetables, held against a second way; and there is one text of what is read alone.
func TestPrintAgainstModel(t *testing.T) {
	t.Parallel()
	r := rand.New(rand.NewSource(182))
	for range 5000 {
		table := anyTable(r, anyDay(r))
		want := modelPrint(table)
		checkPrint(t, table, want)
		if again, e := timetable.Print(parsed(t, dressed(r, want))); again != want || e != api.OK {
			t.Fatalf("P18.2: %d, %q, want %q", e, again, want)
		}
		if strings.Contains(want, "\r") || !strings.HasSuffix(want, "\n") {
			t.Fatalf("%q", want)
		}
	}
}
