package timetable_test

import (
	"fmt"
	"math/rand"
	"reflect"
	"slices"
	"strings"
	"testing"

	"junction/api"
	"junction/timetable"
)

// example is the chapter's timetable T.
const example = `timetable main
day work
  at 06:30 slot 2
  at 22:00 flash
day rest
  at 08:00 slot 1
week work work work work work rest rest
on 2026-12-25 rest
shift 2026-03-29 02:00 +60
shift 2026-10-25 02:00 +0
`

const (
	lastDay    = 146096
	lastMinute = 210379679
	aWeek      = 10080
)

func parsed(t *testing.T, text string) api.Timetable {
	t.Helper()
	table, f := timetable.Parse(text)
	if f != (api.Fault{}) {
		t.Fatalf("Parse of %q: %v", text, f)
	}
	return table
}

// pick is one of the list.
func pick[T any](r *rand.Rand, list ...T) T { return list[r.Intn(len(list))] }

// marked is a text without its @, and the place at which that stood; of none the zero place.
func marked(text string) (string, api.Pos) {
	i := strings.Index(text, "@")
	if i < 0 {
		return text, api.Pos{}
	}
	line := strings.Count(text[:i], "\n")
	return text[:i] + text[i+1:], api.Pos{Line: line + 1, Col: i - strings.LastIndex(text[:i], "\n")}
}

// checkFault looks at the fault of a text, whose place is marked by an @.
func checkFault(t *testing.T, text string, e api.Errno) {
	t.Helper()
	text, at := marked(text)
	table, f := timetable.Parse(text)
	if want := (api.Fault{Code: e, At: at}); f != want {
		t.Errorf("P18.1: Parse of %.200q: %v, want %v", text, f, want)
	}
	if f != (api.Fault{}) && !same(table, api.Timetable{}) {
		t.Errorf("P18.1: Parse of %.200q: %v beside %v", text, table, f)
	}
}

// same tells whether two timetables are equal, a nil list and an empty one too.
func same(a, b api.Timetable) bool {
	sameKinds := slices.EqualFunc(a.Days, b.Days, func(k, l api.DayKind) bool { return k.Name == l.Name && slices.Equal(k.Rows, l.Rows) })
	return a.Name == b.Name && a.Week == b.Week && sameKinds && slices.Equal(a.Seasons, b.Seasons) && slices.Equal(a.Excepts, b.Excepts) && slices.Equal(a.Shifts, b.Shifts)
}

// all is what Switches gives.
func all(t api.Timetable, from, to int) [][2]int {
	var list [][2]int
	for m, slot := range timetable.Switches(t, from, to) {
		list = append(list, [2]int{m, slot})
	}
	return list
}

func checkAt(t *testing.T, what string, table api.Timetable, minute, want int) {
	t.Helper()
	if slot, e := timetable.At(table, minute); slot != want || e != api.OK {
		t.Errorf("%s: At(%d*1440 + %d) = %d, %d, want %d", what, minute/1440, minute%1440, slot, e, want)
	}
}

func checkNext(t *testing.T, what string, table api.Timetable, minute, want, wantSlot int) {
	t.Helper()
	if m, slot, e := timetable.Next(table, minute); m != want || slot != wantSlot || e != api.OK {
		t.Errorf("%s: Next(%d) = %d, %d, %d, want %d, %d", what, minute, m, slot, e, want, wantSlot)
	}
}

// ruin writes over all lists of a timetable, their spare room too.
func ruin(t api.Timetable) {
	for _, k := range t.Days {
		overwrite(k.Rows, api.Row{Minute: -5, Slot: 99})
	}
	overwrite(t.Days, api.DayKind{Name: "ruin"})
	overwrite(t.Seasons, api.Season{From: -5, To: 99})
	overwrite(t.Excepts, api.Except{Day: -5, Kind: 99})
	overwrite(t.Shifts, api.Shift{Minute: -5, Plus: 9999})
}

func overwrite[T any](list []T, x T) {
	list = list[:cap(list)]
	for i := range list {
		list[i] = x
	}
}

// roomy is a copy whose lists have spare room, in which no call may write.
func roomy(t api.Timetable) api.Timetable {
	t.Days = withRoom(t.Days)
	for i := range t.Days {
		t.Days[i].Rows = withRoom(t.Days[i].Rows)
	}
	t.Seasons, t.Excepts, t.Shifts = withRoom(t.Seasons), withRoom(t.Excepts), withRoom(t.Shifts)
	return t
}

func withRoom[T any](list []T) []T { return append(make([]T, 0, len(list)+9), list...) }

// whole is a timetable with the spare room of its lists.
func whole(t api.Timetable) api.Timetable {
	t.Days = slices.Clone(t.Days[:cap(t.Days)])
	for i, k := range t.Days {
		t.Days[i].Rows = k.Rows[:cap(k.Rows)]
	}
	t.Seasons, t.Excepts, t.Shifts = t.Seasons[:cap(t.Seasons)], t.Excepts[:cap(t.Excepts)], t.Shifts[:cap(t.Shifts)]
	return t
}

// piece is the memory of a list, its spare room too.
type piece struct{ from, to uintptr }

func pieceOf[T any](list []T) piece {
	if cap(list) == 0 {
		return piece{}
	}
	v := reflect.ValueOf(list)
	return piece{v.Pointer(), v.Pointer() + uintptr(cap(list))*v.Type().Elem().Size()}
}

// pieces are those of all lists of a timetable.
func pieces(t api.Timetable) []piece {
	list := []piece{pieceOf(t.Days), pieceOf(t.Seasons), pieceOf(t.Excepts), pieceOf(t.Shifts)}
	for _, k := range t.Days {
		list = append(list, pieceOf(k.Rows))
	}
	return list
}

// share tells whether two of the pieces have memory in common.
func share(list ...piece) bool {
	for i, p := range list {
		for _, q := range list[:i] {
			if p.from < q.to && q.from < p.to {
				return true
			}
		}
	}
	return false
}

// anyName is a name that n makes different from others, one of the lines' words perhaps.
func anyName(r *rand.Rand, n int) string {
	words := []string{"timetable", "day", "at", "slot", "flash", "week", "season", "on", "shift"}
	switch r.Intn(4) {
	case 0:
		return words[n%len(words)] + strings.Repeat("x", n/len(words))
	case 1:
		return fmt.Sprintf("%c%s%02d", 'a'+rune(r.Intn(26)), strings.Repeat("-", r.Intn(30)), n)
	case 2:
		return fmt.Sprintf("%c%s%02d", 'A'+rune(r.Intn(26)), strings.Repeat("_", r.Intn(3)), n)
	}
	return string(rune('a' + n))
}

// rising are n numbers from 0 to below most, strictly rising.
func rising(r *rand.Rand, n, most int) []int {
	seen := map[int]bool{}
	for len(seen) < min(n, most) {
		seen[r.Intn(most)] = true
	}
	var list []int
	for x := range seen {
		list = append(list, x)
	}
	slices.Sort(list)
	return list
}

func anyRows(r *rand.Rand) []api.Row {
	minutes := rising(r, pick(r, 1, 1, 2, 3, 5, 48), 1440)
	if r.Intn(3) == 0 {
		minutes[0] = 0
	}
	if r.Intn(3) == 0 {
		minutes[len(minutes)-1] = 1439
	}
	var rows []api.Row
	slots := pick(r, 1, 2, 9)
	for _, m := range minutes {
		rows = append(rows, api.Row{Minute: m, Slot: r.Intn(slots) - 1})
	}
	return rows
}

// anyTable is a sound timetable, whose dates lie about a day.
func anyTable(r *rand.Rand, about int) api.Timetable {
	t := api.Timetable{Name: anyName(r, 0)}
	names := map[string]bool{}
	for i := range pick(r, 1, 2, 2, 3, 16) {
		name := anyName(r, i)
		for names[name] {
			name = anyName(r, i)
		}
		names[name] = true
		t.Days = append(t.Days, api.DayKind{Name: name, Rows: anyRows(r)})
	}
	week := func() (week [7]int) {
		for i := range week {
			week[i] = r.Intn(len(t.Days))
		}
		return week
	}
	day := func() int { return min(max(0, about+r.Intn(40)-20), lastDay) }
	t.Week = week()
	for range pick(r, 0, 0, 1, 3, 16) {
		from := day()
		t.Seasons = append(t.Seasons, api.Season{From: from, To: min(from+r.Intn(15), lastDay), Week: week()})
	}
	days := map[int]bool{}
	for range pick(r, 0, 0, 1, 5, 64) {
		if d := day(); !days[d] {
			days[d] = true
			t.Excepts = append(t.Excepts, api.Except{Day: d, Kind: r.Intn(len(t.Days))})
		}
	}
	first := max(0, about-15) * 1440
	for _, m := range rising(r, pick(r, 0, 0, 1, 2, 5, 16), pick(r, 16, 3000, 30*1440)) {
		if m += first; m <= lastMinute {
			t.Shifts = append(t.Shifts, api.Shift{Minute: m, Plus: pick(r, -720, -1, 0, 1, 60, 840, r.Intn(1561)-720)})
		}
	}
	return t
}

// anyDay is one of the calendar, its ends mostly.
func anyDay(r *rand.Rand) int {
	return pick(r, 0, 1, r.Intn(20), lastDay, lastDay-r.Intn(20), 59, 36583, r.Intn(lastDay+1), r.Intn(lastDay+1))
}
