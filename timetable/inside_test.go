package timetable

import (
	"maps"
	"math/rand"
	"slices"
	"testing"

	"junction/api"
)

// Chapter 18's Ways: each line's reader stands in a map by the line's first word.
func TestReaders(t *testing.T) {
	words := slices.Sorted(maps.Keys(newReader().lines))
	if want := []string{"at", "day", "on", "season", "shift", "timetable", "week"}; !slices.Equal(words, want) {
		t.Errorf("%v, want %v", words, want)
	}
}

// Readers know nothing of each other, and a week that is not told is one of no kinds.
func TestNewReader(t *testing.T) {
	first, second := newReader(), newReader()
	first.read("timetable a", 1)
	first.read("day b", 2)
	first.read("week b b b b b b b", 3)
	if second.table.Name != "" || len(second.table.Days) != 0 || second.table.Week != noWeek || first.table.Week != [7]int{} {
		t.Errorf("%+v, %+v", first.table, second.table)
	}
}

// shifty has as many rows and shifts as there may be, the shifts within two weeks, so that the local time goes over some days again and again.
func shifty(r *rand.Rand, begin int) api.Timetable {
	t := api.Timetable{Name: "shifty", Week: [7]int{0, 1, 0, 1, 0, 1, 0}}
	for i := range 2 {
		k := api.DayKind{Name: string(rune('a' + i))}
		for j := range api.MaxRows {
			k.Rows = append(k.Rows, api.Row{Minute: 30*j + i*29, Slot: r.Intn(3) - 1})
		}
		t.Days = append(t.Days, k)
	}
	for i := range api.MaxShifts {
		t.Shifts = append(t.Shifts, api.Shift{Minute: begin + 1200*i + r.Intn(1200), Plus: r.Intn(mostPlus-leastPlus+1) + leastPlus})
	}
	return t
}

// Chapter 18's Ways: the minutes at which something may change rise, lie within their bounds, and are all at which something changes; and they are no more than the rows of fifteen days and the shifts.
func TestChanges(t *testing.T) {
	r := rand.New(rand.NewSource(18))
	for i := range 100 {
		begin := []int{0, 1440, 5000000, api.MaxMinute - 23000}[i%4]
		table := shifty(r, begin)
		if e := Sound(table); e != api.OK {
			t.Fatal(e)
		}
		behind := begin + r.Intn(800)
		if i%8 < 4 {
			behind = table.Shifts[0].Minute // which is not given itself
		}
		ahead := behind + api.MaxAhead + 1
		given := map[int]bool{}
		last := behind
		for m := range changes(table, behind, ahead) {
			if m <= last || m >= ahead {
				t.Fatalf("%d behind %d, ahead of %d", m, last, ahead)
			}
			last = m
			given[m] = true
		}
		for m := behind + 1; m < ahead; m++ {
			if slotAt(table, m) != slotAt(table, m-1) && !given[m] {
				t.Fatalf("%d is not given", m)
			}
		}
		if most := 15*api.MaxRows + api.MaxShifts; len(given) > most || len(given) < 300 {
			t.Errorf("%d minutes, at most %d", len(given), most)
		}
	}
}

// Where the one who asks stops, no more is given.
func TestChangesStop(t *testing.T) {
	r := rand.New(rand.NewSource(18))
	table := shifty(r, 0)
	want := slices.Collect(changes(table, 100, 20000))
	for stop := 1; stop <= len(want); stop++ {
		var got []int
		changes(table, 100, 20000)(func(m int) bool {
			got = append(got, m)
			return len(got) < stop
		})
		if !slices.Equal(got, want[:stop]) {
			t.Fatalf("stopped at %d: %v", stop, got)
		}
	}
	count := 0
	stretches(table.Shifts)(func(stretch) bool {
		count++
		return false
	})
	if count != 1 {
		t.Errorf("%d stretches", count)
	}
}

// Stretches lie one behind the other over all of the calendar.
func TestStretches(t *testing.T) {
	for _, shifts := range [][]api.Shift{nil, {{Minute: 0, Plus: 5}}, {{Minute: 7, Plus: 5}, {Minute: 9, Plus: 6}}, {{Minute: api.MaxMinute, Plus: 5}}} {
		end := 0
		for s := range stretches(shifts) {
			if s.begin != end || s.end < s.begin || s.begin < s.end && s.plus != plusAt(shifts, s.begin) || s.begin < s.end && s.plus != plusAt(shifts, s.end-1) {
				t.Errorf("%v: %+v behind %d", shifts, s, end)
			}
			end = s.end
		}
		if end != api.MaxMinute+1 {
			t.Errorf("%v: the last one ends at %d", shifts, end)
		}
	}
}
