package station

import (
	"strconv"

	"junction/api"
	"junction/timetable"
)

const (
	dayMinutes = 1440
	lastSecond = api.MaxMinute*60 + 59
)

// clock counts the seconds from 2000-01-01 00:00:00 on.
type clock struct {
	second int
}

// set begins a minute.
func (c *clock) set(minute int) { c.second = 60 * minute }

// advance stays at the calendar's last second.
func (c *clock) advance() { c.second = min(c.second+1, lastSecond) }

func (c *clock) minute() int { return c.second / 60 }

// date is the clock as a text.
func (c *clock) date() string {
	minute := c.minute()
	year, month, day, _ := timetable.Date(minute / dayMinutes)
	minute %= dayMinutes
	return padded(year, 4) + "-" + padded(month, 2) + "-" + padded(day, 2) + " " +
		padded(minute/60, 2) + ":" + padded(minute%60, 2) + ":" + padded(c.second%60, 2)
}

// padded is a number with zeros in front, up to a width.
func padded(n, width int) string {
	text := strconv.Itoa(n)
	for len(text) < width {
		text = "0" + text
	}
	return text
}
