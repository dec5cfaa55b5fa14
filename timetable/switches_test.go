package timetable_test

import (
	"iter"
	"math"
	"slices"
	"testing"

	"junction/api"
	"junction/timetable"
)

// checkSwitches looks at all that Switches gives.
func checkSwitches(t *testing.T, table api.Timetable, from, to int, want ...[2]int) {
	t.Helper()
	if got := all(table, from, to); !slices.Equal(got, want) {
		t.Errorf("P18.7: Switches(%d, %d) = %v, want %v of %+v", from, to, got, want, table)
	}
}

// P18.7: the first pair, those up to the end, and not the end's own.
func TestSwitches(t *testing.T) {
	table := parsed(t, example)
	const monday = 9816 * 1440
	checkSwitches(t, table, monday, monday+1, [2]int{monday, 1})
	checkSwitches(t, table, monday, monday+390, [2]int{monday, 1})
	checkSwitches(t, table, monday, monday+391, [2]int{monday, 1}, [2]int{monday + 390, 2})
	checkSwitches(t, table, monday+389, monday+391, [2]int{monday + 389, 1}, [2]int{monday + 390, 2})
	checkSwitches(t, table, monday+390, monday+391, [2]int{monday + 390, 2})
	checkSwitches(t, table, monday+390, monday+1320, [2]int{monday + 390, 2})
	checkSwitches(t, table, monday+391, monday+2*1440, [2]int{monday + 391, 2}, [2]int{monday + 1320, -1}, [2]int{monday + 1440 + 390, 2}, [2]int{monday + 1440 + 1320, -1})
	checkSwitches(t, table, 0, 1440, [2]int{0, -1}, [2]int{480, 1})
	checkSwitches(t, table, lastMinute-1, lastMinute, [2]int{lastMinute - 1, -1})
	checkSwitches(t, table, lastMinute-120, lastMinute, [2]int{lastMinute - 120, 2}, [2]int{lastMinute - 119, -1})
}

// P18.7: nothing at all.
func TestNoSwitches(t *testing.T) {
	table := parsed(t, example)
	for _, c := range [][2]int{
		{5, 5}, {5, 4}, {0, 0}, {lastMinute, lastMinute}, {lastMinute, 0}, {-1, 5}, {-1, 0}, {-5, -1}, {0, -1}, {lastMinute - 1, lastMinute + 1}, {lastMinute, lastMinute + 1}, {lastMinute + 1, lastMinute + 2},
		{0, 44641}, {1, 44642}, {0, lastMinute}, {lastMinute - 44641, lastMinute}, {math.MinInt, math.MaxInt}, {math.MaxInt, math.MinInt}, {math.MinInt, math.MinInt + 1}, {math.MaxInt - 1, math.MaxInt}, {math.MinInt, 0}, {0, math.MaxInt}, {1 << 32, 1<<32 + 1},
	} {
		checkSwitches(t, table, c[0], c[1])
	}
	table.Name = ""
	checkSwitches(t, table, 0, 100)
	checkSwitches(t, api.Timetable{}, 0, 100)
	checkSwitches(t, api.Timetable{}, -1, 100)
}

// P18.7: 31 days are the longest time.
func TestSwitchesSpan(t *testing.T) {
	table := parsed(t, example)
	for _, from := range []int{0, 9580 * 1440, lastMinute - 44640} {
		want := newModel(table).switches(from, from+44640)
		if len(want) < 20 {
			t.Errorf("%d switches alone", len(want))
		}
		checkSwitches(t, table, from, from+44640, want...)
		checkSwitches(t, table, from, from+44641)
	}
	// The last minute of them.
	still := calm(131)
	checkSwitches(t, still, 100*1440, 131*1440, [2]int{100 * 1440, 1})
	checkSwitches(t, still, 100*1440+1, 131*1440+1, [2]int{100*1440 + 1, 1}, [2]int{131 * 1440, 2})
}

// P18.7: where a loop stops, no more is given: not even asked.
func TestSwitchesStop(t *testing.T) {
	const monday = 9816 * 1440
	s := timetable.Switches(parsed(t, example), monday, monday+7*1440)
	want := all(parsed(t, example), monday, monday+7*1440)
	if len(want) != 12 {
		t.Fatalf("P18.7: %v", want)
	}
	for stop := range len(want) + 1 {
		var got [][2]int
		// A function that is called again behind its false would be seen here, and break a loop.
		s(func(m, slot int) bool {
			got = append(got, [2]int{m, slot})
			return len(got) < stop
		})
		if !slices.Equal(got, want[:max(1, stop)]) {
			t.Errorf("P18.7: stopped at %d: %v", stop, got)
		}
		count := 0
		for range s {
			if count++; count >= stop {
				break
			}
		}
		if count != max(1, stop) {
			t.Errorf("P18.7: a loop that stops at %d went round %d times", stop, count)
		}
	}
}

// P18.7: it may be gone through any number of times, in one another too.
func TestSwitchesAgain(t *testing.T) {
	const from, to = 9780 * 1440, 9800 * 1440
	s := timetable.Switches(parsed(t, example), from, to)
	want := newModel(parsed(t, example)).switches(from, to)
	collect := func() (list [][2]int) {
		for m, slot := range s {
			list = append(list, [2]int{m, slot})
		}
		return list
	}
	var outer [][2]int
	for m, slot := range s {
		outer = append(outer, [2]int{m, slot})
		if inner := collect(); !slices.Equal(inner, want) {
			t.Fatalf("P18.7: within a loop: %v, want %v", inner, want)
		}
	}
	next, stop := iter.Pull2(s)
	defer stop()
	m, slot, ok := next()
	if again := collect(); !slices.Equal(outer, want) || !slices.Equal(again, want) || !ok || [2]int{m, slot} != want[0] {
		t.Errorf("P18.7: %v, then %v, want %v", outer, again, want)
	}
	if m, slot, ok := next(); !ok || [2]int{m, slot} != want[1] {
		t.Errorf("P18.7: pulled: %d, %d", m, slot)
	}
}

// P18.7: what is written into the timetable's lists behind the call is not seen, be it ahead of a loop or within one.
func TestSwitchesKeep(t *testing.T) {
	for _, base := range []api.Timetable{parsed(t, example), fullTable(), calm(110)} {
		from := 100 * 1440
		want := newModel(base).switches(from, from+44640)
		table := roomy(base)
		s := timetable.Switches(table, from, from+44640)
		late := timetable.Switches(table, from, from+44640)
		ruin(table)
		for range 2 {
			var got [][2]int
			for m, slot := range s {
				got = append(got, [2]int{m, slot})
			}
			if !slices.Equal(got, want) {
				t.Errorf("P18.7: %v, want %v", got, want)
			}
		}
		if got := all(table, from, from+44640); len(got) != 0 {
			t.Errorf("P18.7: of a ruined timetable: %v", got)
		}
		// What was not sound when Switches was called gives nothing, even if it is mended.
		broken := timetable.Switches(table, from, from+44640)
		copy(table.Days, base.Days)
		for m, slot := range broken {
			t.Errorf("P18.7: %d, %d", m, slot)
		}
		var got [][2]int
		for m, slot := range late {
			ruin(table)
			got = append(got, [2]int{m, slot})
		}
		if !slices.Equal(got, want) {
			t.Errorf("P18.7: %v, want %v", got, want)
		}
	}
}

// P18.7: one list alone is written into.
func TestSwitchesKeepEach(t *testing.T) {
	base := two()
	base.Seasons = []api.Season{{From: 0, To: 5, Week: [7]int{1, 1, 1, 1, 1, 1, 1}}}
	base.Excepts = []api.Except{{Day: 3, Kind: 0}}
	base.Shifts = []api.Shift{{Minute: 2000, Plus: 60}}
	want := newModel(base).switches(0, 10*1440)
	for what, write := range map[string]func(t api.Timetable){
		"a row":    func(t api.Timetable) { t.Days[0].Rows[0] = api.Row{Minute: 61, Slot: 7} },
		"rows":     func(t api.Timetable) { t.Days[1].Rows = []api.Row{{Minute: 5, Slot: 6}} },
		"a kind":   func(t api.Timetable) { t.Days[1] = t.Days[0] },
		"a season": func(t api.Timetable) { t.Seasons[0].Week[3] = 0 },
		"a day":    func(t api.Timetable) { t.Excepts[0].Day = 4 },
		"a shift":  func(t api.Timetable) { t.Shifts[0].Plus = -60 },
	} {
		table := roomy(base)
		s := timetable.Switches(table, 0, 10*1440)
		write(table)
		var got [][2]int
		for m, slot := range s {
			got = append(got, [2]int{m, slot})
		}
		if changed := all(table, 0, 10*1440); !slices.Equal(got, want) || slices.Equal(changed, want) {
			t.Errorf("P18.7: %s: %v, want %v, not %v", what, got, want, changed)
		}
	}
}
