package timetable_test

import (
	"math"
	"testing"
	"time"

	"junction/api"
	"junction/timetable"
)

// P18.4: the chapter's examples, and the edges of the calendar.
func TestCalendar(t *testing.T) {
	for _, c := range []struct{ year, month, day, number, weekday int }{
		{2000, 1, 1, 0, 5}, {2000, 1, 2, 1, 6}, {2000, 1, 3, 2, 0}, {2000, 1, 31, 30, 0}, {2000, 2, 1, 31, 1},
		{2000, 2, 28, 58, 0}, {2000, 2, 29, 59, 1}, {2000, 3, 1, 60, 2}, {2000, 12, 31, 365, 6}, {2001, 1, 1, 366, 0},
		{2004, 2, 29, 1520, 6}, {2026, 11, 14, 9814, 5}, {2026, 12, 25, 9855, 4},
		{2100, 2, 28, 36583, 6}, {2100, 3, 1, 36584, 0}, {2200, 3, 1, 73108, 5}, {2300, 3, 1, 109632, 3}, {2396, 2, 29, 144695, 3}, {2399, 12, 31, 146096, 4},
	} {
		if n, e := timetable.DayNumber(c.year, c.month, c.day); n != c.number || e != api.OK {
			t.Errorf("P18.4: DayNumber(%d, %d, %d) = %d, %d, want %d", c.year, c.month, c.day, n, e, c.number)
		}
		if y, m, d, e := timetable.Date(c.number); y != c.year || m != c.month || d != c.day || e != api.OK {
			t.Errorf("P18.4: Date(%d) = %d, %d, %d, %d, want %d, %d, %d", c.number, y, m, d, e, c.year, c.month, c.day)
		}
		if w, e := timetable.Weekday(c.number); w != c.weekday || e != api.OK {
			t.Errorf("P18.4: Weekday(%d) = %d, %d, want %d", c.number, w, e, c.weekday)
		}
	}
}

// P18.4: what is no day of the calendar.
func TestNoDay(t *testing.T) {
	for _, c := range [][3]int{
		{2100, 2, 29}, {2200, 2, 29}, {2300, 2, 29}, {2001, 2, 29}, {2000, 2, 30}, {2026, 4, 31}, {2026, 6, 31}, {2026, 9, 31}, {2026, 11, 31}, {2026, 1, 32}, {2026, 12, 32},
		{1999, 12, 31}, {2400, 1, 1}, {2400, 2, 29}, {1996, 2, 29}, {2026, 0, 1}, {2026, 13, 1}, {2026, -1, 1}, {2026, 1, 0}, {2026, 1, -1}, {0, 0, 0}, {26, 11, 14}, {-2026, 11, 14},
		{math.MaxInt, 1, 1}, {math.MinInt, 1, 1}, {2026, math.MaxInt, 1}, {2026, math.MinInt, 1}, {2026, 1, math.MaxInt}, {2026, 1, math.MinInt}, {2026 + 1<<32, 1, 1}, {2026, 1 + 1<<32, 1}, {2026, 1, 1 + 1<<32},
	} {
		if n, e := timetable.DayNumber(c[0], c[1], c[2]); n != 0 || e != api.ErrTableWhen {
			t.Errorf("P18.4: DayNumber%v = %d, %d", c, n, e)
		}
	}
	for _, n := range []int{-1, -2, 146097, 146098, math.MaxInt, math.MinInt, 1 << 32, -1 << 32, math.MaxInt32, math.MinInt32} {
		if y, m, d, e := timetable.Date(n); y != 0 || m != 0 || d != 0 || e != api.ErrTableWhen {
			t.Errorf("P18.4: Date(%d) = %d, %d, %d, %d", n, y, m, d, e)
		}
		if w, e := timetable.Weekday(n); w != 0 || e != api.ErrTableWhen {
			t.Errorf("P18.4: Weekday(%d) = %d, %d", n, w, e)
		}
	}
}

// P18.4: each day of the calendar, held against package time.
func TestEachDay(t *testing.T) {
	t.Parallel()
	day := firstDay
	for n := range lastDay + 1 {
		year, month, monthDay := day.Year(), int(day.Month()), day.Day()
		if y, m, d, e := timetable.Date(n); y != year || m != month || d != monthDay || e != api.OK {
			t.Fatalf("P18.4: Date(%d) = %d, %d, %d, %d, want %v", n, y, m, d, e, day)
		}
		if number, e := timetable.DayNumber(year, month, monthDay); number != n || e != api.OK {
			t.Fatalf("P18.4: DayNumber of %v = %d, %d, want %d", day, number, e, n)
		}
		if w, e := timetable.Weekday(n); w != (int(day.Weekday())+6)%7 || e != api.OK {
			t.Fatalf("P18.4: Weekday(%d) = %d, %d, want that of %v", n, w, e, day.Weekday())
		}
		day = day.AddDate(0, 0, 1)
	}
	if day != time.Date(2400, 1, 1, 0, 0, 0, 0, time.UTC) {
		t.Errorf("the last day is that ahead of %v", day)
	}
}

// P18.4: of all threes of numbers about those of dates just the dates are let in.
func TestEachThree(t *testing.T) {
	t.Parallel()
	count := 0
	for year := 1990; year <= 2410; year++ {
		for month := -1; month <= 14; month++ {
			for day := -1; day <= 33; day++ {
				date := time.Date(year, time.Month(month), day, 0, 0, 0, 0, time.UTC)
				is := date.Year() == year && int(date.Month()) == month && date.Day() == day && year >= 2000 && year < 2400
				n, e := timetable.DayNumber(year, month, day)
				if is != (e == api.OK) || !is && (n != 0 || e != api.ErrTableWhen) {
					t.Fatalf("P18.4: DayNumber(%d, %d, %d) = %d, %d", year, month, day, n, e)
				}
				if is {
					count++
				}
			}
		}
	}
	if count != lastDay+1 {
		t.Errorf("P18.4: %d days", count)
	}
}
