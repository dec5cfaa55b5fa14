package timetable

import (
	"strconv"
	"strings"

	"junction/api"
)

// Print is the one text of a sound timetable.
func Print(t api.Timetable) (string, api.Errno) {
	if e := Sound(t); e != api.OK {
		return "", e
	}
	var p printer
	p.line("timetable", t.Name)
	for _, k := range t.Days {
		p.line("day", k.Name)
		for _, row := range k.Rows {
			p.line("  at", clockText(row.Minute), slotText(row.Slot))
		}
	}
	p.line("week", weekText(t, t.Week))
	for _, s := range t.Seasons {
		p.line("season", dateText(s.From), dateText(s.To), weekText(t, s.Week))
	}
	for _, x := range t.Excepts {
		p.line("on", dateText(x.Day), t.Days[x.Kind].Name)
	}
	for _, s := range t.Shifts {
		p.line("shift", dateText(s.Minute/dayMinutes), clockText(s.Minute%dayMinutes), plusText(s.Plus))
	}
	return p.String(), api.OK
}

type printer struct{ strings.Builder }

func (p *printer) line(words ...string) {
	p.WriteString(strings.Join(words, " "))
	p.WriteByte('\n')
}

func clockText(minute int) string { return twoDigits(minute/60) + ":" + twoDigits(minute%60) }

func slotText(slot int) string {
	if slot == api.SlotFlash {
		return "flash"
	}
	return "slot " + strconv.Itoa(slot)
}

func weekText(t api.Timetable, week [7]int) string {
	var names [7]string
	for i, kind := range week {
		names[i] = t.Days[kind].Name
	}
	return strings.Join(names[:], " ")
}

// dateText: what is sound has days of the calendar alone.
func dateText(day int) string {
	year, month, day, _ := Date(day)
	return strconv.Itoa(year) + "-" + twoDigits(month) + "-" + twoDigits(day)
}

func plusText(plus int) string {
	if plus < 0 {
		return strconv.Itoa(plus)
	}
	return "+" + strconv.Itoa(plus)
}

func twoDigits(n int) string { return strconv.Itoa(100 + n)[1:] }
