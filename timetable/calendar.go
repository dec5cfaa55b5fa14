package timetable

import "junction/api"

const (
	firstYear = 2000
	lastYear  = 2399
	months    = 12
)

// monthDays are those of a year without a 29 February.
var monthDays = [months]int{31, 28, 31, 30, 31, 30, 31, 31, 30, 31, 30, 31}

// DayNumber is the days from 2000-01-01 to a date.
func DayNumber(year, month, day int) (int, api.Errno) {
	if year < firstYear || year > lastYear || month < 1 || month > months || day < 1 || day > daysOf(year, month) {
		return 0, api.ErrTableWhen
	}
	number := newYear(year) + day - 1
	for m := 1; m < month; m++ {
		number += daysOf(year, m)
	}
	return number, api.OK
}

// Date is the date so many days behind 2000-01-01.
func Date(day int) (int, int, int, api.Errno) {
	if !isDay(day) {
		return 0, 0, 0, api.ErrTableWhen
	}
	// No year has more days, so that this one is not too late.
	year := firstYear + day/366
	for newYear(year+1) <= day {
		year++
	}
	day -= newYear(year)
	month := 1
	for day >= daysOf(year, month) {
		day -= daysOf(year, month)
		month++
	}
	return year, month, day + 1, api.OK
}

// Weekday is 0 on a Monday, 6 on a Sunday.
func Weekday(day int) (int, api.Errno) {
	if !isDay(day) {
		return 0, api.ErrTableWhen
	}
	return weekday(day), api.OK
}

// weekday: day 0 is a Saturday.
func weekday(day int) int { return (day + 5) % 7 }

func isDay(day int) bool { return day >= 0 && day <= api.MaxDay }

// newYear is the number of a year's first day.
func newYear(year int) int {
	n := year - firstYear
	return 365*n + (n+3)/4 - (n+99)/100 + (n+399)/400
}

// daysOf is how many days a month has.
func daysOf(year, month int) int {
	if month == 2 && isLeap(year) {
		return 29
	}
	return monthDays[month-1]
}

func isLeap(year int) bool { return year%4 == 0 && year%100 != 0 || year%400 == 0 }
