package timetable_test

import (
	"fmt"
	"math"
	"math/rand"
	"strings"
	"testing"

	"junction/api"
	"junction/timetable"
)

// broad has parts enough that two of them can be broken without touching each other.
func broad() api.Timetable {
	t := api.Timetable{Name: "t"}
	for i := range 8 {
		t.Days = append(t.Days, api.DayKind{Name: fmt.Sprint("k", i), Rows: []api.Row{{Minute: 10, Slot: 0}, {Minute: 20, Slot: 1}, {Minute: 30, Slot: 2}}})
	}
	for range 5 {
		t.Seasons = append(t.Seasons, api.Season{From: 10, To: 20})
	}
	for i := range 5 {
		t.Excepts = append(t.Excepts, api.Except{Day: 10 * i})
		t.Shifts = append(t.Shifts, api.Shift{Minute: 1000 * i})
	}
	return t
}

// breaks are all ways to break a timetable, in the order of the table of errors; no two of them touch the same.
func breaks() []struct {
	what  string
	e     api.Errno
	spoil func(t *api.Timetable)
} {
	return []struct {
		what  string
		e     api.Errno
		spoil func(t *api.Timetable)
	}{
		{"Name", api.ErrTableLine, func(t *api.Timetable) { t.Name = "" }},
		{"a kind's name", api.ErrTableLine, func(t *api.Timetable) { t.Days[7].Name = "7" }},
		{"kinds", api.ErrTableFull, func(t *api.Timetable) {
			for i := len(t.Days); i < 17; i++ {
				t.Days = append(t.Days, api.DayKind{Name: fmt.Sprint("k", i), Rows: make([]api.Row, 1)})
			}
		}},
		{"rows", api.ErrTableFull, func(t *api.Timetable) {
			t.Days[6].Rows = nil
			for i := range 49 {
				t.Days[6].Rows = append(t.Days[6].Rows, api.Row{Minute: i})
			}
		}},
		{"Seasons", api.ErrTableFull, func(t *api.Timetable) { t.Seasons = append(t.Seasons, make([]api.Season, 12)...) }},
		{"Excepts", api.ErrTableFull, func(t *api.Timetable) {
			for i := range 60 {
				t.Excepts = append(t.Excepts, api.Except{Day: 1000 + i})
			}
		}},
		{"Shifts", api.ErrTableFull, func(t *api.Timetable) {
			for i := range 12 {
				t.Shifts = append(t.Shifts, api.Shift{Minute: 10000 + i})
			}
		}},
		{"no row", api.ErrTableLack, func(t *api.Timetable) { t.Days[5].Rows = nil }},
		{"kinds of one name", api.ErrTableTwice, func(t *api.Timetable) { t.Days[4].Name = "k0" }},
		{"Excepts of one day", api.ErrTableTwice, func(t *api.Timetable) { t.Excepts[4].Day = 0 }},
		{"a row's Minute", api.ErrTableClock, func(t *api.Timetable) { t.Days[3].Rows[2].Minute = 1440 }},
		{"a row's Slot", api.ErrTableClock, func(t *api.Timetable) { t.Days[3].Rows[1].Slot = 8 }},
		{"a shift's Plus", api.ErrTableClock, func(t *api.Timetable) { t.Shifts[3].Plus = 841 }},
		{"a Season's From", api.ErrTableDate, func(t *api.Timetable) { t.Seasons[0].From = -1 }},
		{"a Season's To", api.ErrTableDate, func(t *api.Timetable) { t.Seasons[1].To = 146097 }},
		{"a Season's end", api.ErrTableDate, func(t *api.Timetable) { t.Seasons[2].To = 9 }},
		{"an Except's Day", api.ErrTableDate, func(t *api.Timetable) { t.Excepts[3].Day = 146097 }},
		{"a Shift's Minute", api.ErrTableDate, func(t *api.Timetable) { t.Shifts[4].Minute = 210379680 }},
		{"the week", api.ErrTableDay, func(t *api.Timetable) { t.Week[6] = 99 }},
		{"a Season's week", api.ErrTableDay, func(t *api.Timetable) { t.Seasons[3].Week[0] = -1 }},
		{"an Except's Kind", api.ErrTableDay, func(t *api.Timetable) { t.Excepts[2].Kind = 99 }},
		{"rows", api.ErrTableOrder, func(t *api.Timetable) { t.Days[2].Rows[1].Minute = 10 }},
		{"Shifts", api.ErrTableOrder, func(t *api.Timetable) { t.Shifts[1].Minute = 0 }},
	}
}

// checkSound looks at Sound, and whether the other calls tell its error.
func checkSound(t *testing.T, what string, table api.Timetable, want api.Errno) {
	t.Helper()
	if e := timetable.Sound(table); e != want {
		t.Errorf("P18.3: %s: %d, want %d", what, e, want)
	}
	if want == api.OK {
		return
	}
	if text, e := timetable.Print(table); text != "" || e != want {
		t.Errorf("P18.2: %s: %q, %d, want %d", what, text, e, want)
	}
	// What is not sound is told ahead of what is outside the calendar.
	for _, when := range []int{0, 1000, -1, math.MaxInt} {
		if m, e := timetable.Local(table, when); m != 0 || e != want {
			t.Errorf("P18.5: %s: Local: %d, %d, want %d", what, m, e, want)
		}
		if kind, e := timetable.KindOf(table, when); kind != 0 || e != want {
			t.Errorf("P18.5: %s: KindOf: %d, %d, want %d", what, kind, e, want)
		}
		if slot, e := timetable.At(table, when); slot != 0 || e != want {
			t.Errorf("P18.5: %s: At: %d, %d, want %d", what, slot, e, want)
		}
		if m, slot, e := timetable.Next(table, when); m != 0 || slot != 0 || e != want {
			t.Errorf("P18.6: %s: Next: %d, %d, %d, want %d", what, m, slot, e, want)
		}
	}
	if list := all(table, 0, 1000); len(list) != 0 {
		t.Errorf("P18.7: %s: Switches: %v", what, list)
	}
}

// P18.3: each line of the table alone; and of each two that are broken the one that the table has first.
func TestBreaks(t *testing.T) {
	checkSound(t, "nothing", broad(), api.OK)
	for i := range breaks() {
		for j := range breaks() {
			table, list := broad(), breaks()
			list[j].spoil(&table)
			if i != j {
				list[i].spoil(&table)
			}
			checkSound(t, list[i].what+" and "+list[j].what, table, list[min(i, j)].e)
		}
	}
}

// P18.3: without kinds, and what is ahead of that and behind it.
func TestNoKinds(t *testing.T) {
	for what, c := range map[string]struct {
		spoil func(t *api.Timetable)
		e     api.Errno
	}{
		"alone":      {func(t *api.Timetable) {}, api.ErrTableLack},
		"no name":    {func(t *api.Timetable) { t.Name = "-" }, api.ErrTableLine},
		"Seasons":    {func(t *api.Timetable) { t.Seasons = make([]api.Season, 17) }, api.ErrTableFull},
		"Excepts":    {func(t *api.Timetable) { t.Excepts[1].Day = 0 }, api.ErrTableLack},
		"a Plus":     {func(t *api.Timetable) { t.Shifts[0].Plus = -721 }, api.ErrTableLack},
		"a Season":   {func(t *api.Timetable) { t.Seasons[0].To = -1 }, api.ErrTableLack},
		"the Shifts": {func(t *api.Timetable) { t.Shifts[4].Minute = 0 }, api.ErrTableLack},
	} {
		for _, none := range [][]api.DayKind{nil, {}} {
			table := broad()
			table.Days = none
			c.spoil(&table)
			checkSound(t, what, table, c.e)
		}
	}
	checkSound(t, "zero", api.Timetable{}, api.ErrTableLine)
	checkSound(t, "a name alone", api.Timetable{Name: "t"}, api.ErrTableLack)
}

// P18.3: each list at its limit.
func TestLimits(t *testing.T) {
	full := fullTable()
	checkSound(t, "all lists full", full, api.OK)
	for what, spoil := range map[string]func(t *api.Timetable){
		"kinds":   func(t *api.Timetable) { t.Days = append(t.Days, api.DayKind{Name: "more", Rows: make([]api.Row, 1)}) },
		"rows":    func(t *api.Timetable) { t.Days[15].Rows = append(t.Days[15].Rows, api.Row{Minute: 1439}) },
		"Seasons": func(t *api.Timetable) { t.Seasons = append(t.Seasons, api.Season{}) },
		"Excepts": func(t *api.Timetable) { t.Excepts = append(t.Excepts, api.Except{Day: 999}) },
		"Shifts":  func(t *api.Timetable) { t.Shifts = append(t.Shifts, api.Shift{Minute: lastMinute}) },
	} {
		table := fullTable()
		spoil(&table)
		checkSound(t, what, table, api.ErrTableFull)
	}
}

// fullTable has as much of everything as there may be, and the longest text.
func fullTable() api.Timetable {
	t := api.Timetable{Name: strings.Repeat("t", 32)}
	for i := range 16 {
		k := api.DayKind{Name: strings.Repeat("k", 31) + string(rune('a'+i))}
		for j := range 48 {
			k.Rows = append(k.Rows, api.Row{Minute: 30*j + i, Slot: (i + j) % 8})
		}
		t.Days = append(t.Days, k)
		t.Seasons = append(t.Seasons, api.Season{From: 100 * i, To: 100*i + 150, Week: [7]int{i, 1, 2, 3, 4, 5, 6}})
		t.Shifts = append(t.Shifts, api.Shift{Minute: 50000 * i, Plus: -100 * (i % 8)})
	}
	for i := range 64 {
		t.Excepts = append(t.Excepts, api.Except{Day: 7 * i, Kind: i % 16})
	}
	return t
}

// P18.3, G8: each number at its ends, and one past them.
func TestRanges(t *testing.T) {
	for what, c := range map[string]struct {
		set      func(t *api.Timetable, n int)
		low, top int
		e        api.Errno
	}{
		"a row's Minute":   {func(t *api.Timetable, n int) { t.Days[0].Rows = []api.Row{{Minute: n}} }, 0, 1439, api.ErrTableClock},
		"a row's Slot":     {func(t *api.Timetable, n int) { t.Days[7].Rows[2].Slot = n }, -1, 7, api.ErrTableClock},
		"a shift's Plus":   {func(t *api.Timetable, n int) { t.Shifts[4].Plus = n }, -720, 840, api.ErrTableClock},
		"a shift's Minute": {func(t *api.Timetable, n int) { t.Shifts = []api.Shift{{Minute: n}} }, 0, 210379679, api.ErrTableDate},
		"a Season's From":  {func(t *api.Timetable, n int) { t.Seasons[4] = api.Season{From: n, To: 146096} }, 0, 146096, api.ErrTableDate},
		"a Season's To":    {func(t *api.Timetable, n int) { t.Seasons[0] = api.Season{From: 0, To: n} }, 0, 146096, api.ErrTableDate},
		"both of a Season": {func(t *api.Timetable, n int) { t.Seasons[1] = api.Season{From: n, To: n} }, 0, 146096, api.ErrTableDate},
		"a Season's end":   {func(t *api.Timetable, n int) { t.Seasons[1] = api.Season{From: 50, To: n} }, 50, 146096, api.ErrTableDate},
		"an Except's Day":  {func(t *api.Timetable, n int) { t.Excepts = []api.Except{{Day: n}} }, 0, 146096, api.ErrTableDate},
		"an Except's Kind": {func(t *api.Timetable, n int) { t.Excepts[0].Kind = n }, 0, 7, api.ErrTableDay},
		"Monday":           {func(t *api.Timetable, n int) { t.Week[0] = n }, 0, 7, api.ErrTableDay},
		"Sunday":           {func(t *api.Timetable, n int) { t.Week[6] = n }, 0, 7, api.ErrTableDay},
		"a Season's day":   {func(t *api.Timetable, n int) { t.Seasons[2].Week[3] = n }, 0, 7, api.ErrTableDay},
	} {
		for n, e := range map[int]api.Errno{c.low: api.OK, c.low + 1: api.OK, c.top - 1: api.OK, c.top: api.OK, c.low - 1: c.e, c.top + 1: c.e, math.MinInt: c.e, math.MaxInt: c.e, c.low - 1<<32: c.e, c.top + 1<<32: c.e} {
			table := broad()
			c.set(&table, n)
			checkSound(t, fmt.Sprint(what, " ", n), table, e)
		}
	}
}

// P18.3: rows and shifts rise strictly; Seasons and Excepts need not.
func TestOrder(t *testing.T) {
	for _, c := range []struct {
		minutes []int
		e       api.Errno
	}{{[]int{5}, api.OK}, {[]int{0, 1, 1439}, api.OK}, {[]int{0, 0}, api.ErrTableOrder}, {[]int{1, 0}, api.ErrTableOrder}, {[]int{1, 2, 3, 3}, api.ErrTableOrder}, {[]int{1, 3, 2, 4}, api.ErrTableOrder}} {
		rows, shifts := broad(), broad()
		rows.Days[7].Rows, shifts.Shifts = nil, nil
		for _, m := range c.minutes {
			rows.Days[7].Rows = append(rows.Days[7].Rows, api.Row{Minute: m})
			shifts.Shifts = append(shifts.Shifts, api.Shift{Minute: m})
		}
		checkSound(t, fmt.Sprint("rows ", c.minutes), rows, c.e)
		checkSound(t, fmt.Sprint("shifts ", c.minutes), shifts, c.e)
	}
	table := broad()
	table.Seasons = []api.Season{{From: 9, To: 20}, {From: 3, To: 5}, {From: 3, To: 5}}
	table.Excepts = []api.Except{{Day: 9}, {Day: 3}}
	checkSound(t, "Seasons and Excepts", table, api.OK)
}

// names are words that are names, and some that are none.
func names() map[string]bool {
	return map[string]bool{
		"a": true, "z": true, "A": true, "Z": true, "a0": true, "a9": true, "a_": true, "a-": true, "a--b__C9": true, "day": true, "timetable": true, "flash": true,
		strings.Repeat("x", 32): true, "x" + strings.Repeat("-", 31): true, strings.Repeat("x", 33): false, strings.Repeat("x", 1<<16-1000): false,
		"": false, "0": false, "9a": false, "_a": false, "-a": false, "a.b": false, "a:b": false, "a+b": false, "a@": false, "[a": false, "`a": false, "{a": false, "a{": false, "a/": false, "é": false, "aé": false, "a\x00": false, "\xff": false, "a\xff": false, "a\v": false, "a\u00a0": false,
	}
}

// P18.3: what a name is.
func TestNames(t *testing.T) {
	for name, is := range names() {
		want := api.ErrTableLine
		if is {
			want = api.OK
		}
		table := broad()
		table.Name = name
		checkSound(t, fmt.Sprintf("Name %.40q", name), table, want)
		table = broad()
		table.Days[0].Name = name
		checkSound(t, fmt.Sprintf("a kind's name %.40q", name), table, want)
	}
	for _, name := range []string{"a b", "a\n", "\na", " a", "a#", "#"} {
		table := broad()
		table.Days[7].Name = name
		checkSound(t, fmt.Sprintf("a kind's name %q", name), table, api.ErrTableLine)
	}
	table := broad()
	table.Days[1].Name = "K0"
	table.Days[2].Name = "k00"
	table.Name = "k0"
	checkSound(t, "names that differ little", table, api.OK)
}

// wildTable is sound but for some numbers, or all numbers are any.
func wildTable(r *rand.Rand) api.Timetable {
	t := anyTable(r, anyDay(r))
	n := func() int {
		return pick(r, -1, 0, 1, 7, 8, 1439, 1440, -720, -721, 840, 841, lastDay, lastDay+1, lastMinute, lastMinute+1, math.MinInt, math.MaxInt, len(t.Days), r.Intn(20))
	}
	for range pick(r, 0, 1, 1, 2, 5) {
		k := &t.Days[r.Intn(len(t.Days))]
		switch r.Intn(16) {
		case 0:
			t.Name = pick(r, "", "9", "a b", strings.Repeat("a", 33))
		case 1:
			k.Name = pick(r, "", "_", t.Days[0].Name, t.Days[len(t.Days)-1].Name)
		case 2:
			k.Rows = pick(r, nil, make([]api.Row, 49), make([]api.Row, 48), make([]api.Row, 2))
		case 3:
			t.Week[r.Intn(7)] = n()
		case 4:
			t.Seasons = append(t.Seasons, api.Season{From: n(), To: n(), Week: [7]int{n()}})
		case 5:
			t.Excepts = append(t.Excepts, api.Except{Day: n(), Kind: n()})
		case 6:
			t.Shifts = append(t.Shifts, api.Shift{Minute: n(), Plus: n()})
		case 7:
			t.Shifts = append([]api.Shift{{Minute: n(), Plus: n()}}, t.Shifts...)
		case 8:
			t.Excepts = append(t.Excepts, t.Excepts...)
		case 9:
			t.Seasons = append(t.Seasons, t.Seasons...)
		case 10:
			t.Days = append(t.Days, *k)
		default:
			if len(k.Rows) > 0 {
				k.Rows[r.Intn(len(k.Rows))] = api.Row{Minute: n(), Slot: pick(r, -2, -1, 0, 7, 8)}
			}
		}
	}
	return t
}

// P18.3: timetables that are broken at random, held against a second way.
func TestSoundAgainstModel(t *testing.T) {
	t.Parallel()
	r := rand.New(rand.NewSource(181))
	seen := map[api.Errno]int{}
	for range 30000 {
		table := wildTable(r)
		want := modelSound(table)
		if e := timetable.Sound(table); e != want {
			t.Fatalf("P18.3: %d, want %d of %+v", e, want, table)
		}
		seen[want]++
	}
	for _, e := range []api.Errno{api.OK, api.ErrTableLine, api.ErrTableFull, api.ErrTableLack, api.ErrTableTwice, api.ErrTableClock, api.ErrTableDate, api.ErrTableDay, api.ErrTableOrder} {
		if seen[e] < 300 {
			t.Errorf("%v", seen)
		}
	}
}
