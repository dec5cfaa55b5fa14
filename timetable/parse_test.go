package timetable_test

import (
	"fmt"
	"math/rand"
	"regexp"
	"strings"
	"testing"

	"junction/api"
	"junction/timetable"
)

// head is the begin of a text with two kinds; week is what else it needs.
const (
	head = "timetable a\nday b\nat 01:00 slot 1\nday c\nat 02:00 flash\n"
	week = "week b b c b b b c\n"
)

// checkParse looks at what is read of a text.
func checkParse(t *testing.T, text string, want api.Timetable) {
	t.Helper()
	table, f := timetable.Parse(text)
	if f != (api.Fault{}) || !same(table, want) {
		t.Errorf("P18.1: Parse of %.300q: %+v, %v, want %+v", text, table, f, want)
	}
	if e := timetable.Sound(table); f == (api.Fault{}) && e != api.OK {
		t.Errorf("P18.1: Parse of %.300q: it is not sound: %d", text, e)
	}
}

// lines are texts, each of them a line.
func lines(list ...string) string { return strings.Join(list, "\n") + "\n" }

// P18.1: the chapter's timetable.
func TestParseExample(t *testing.T) {
	checkParse(t, example, api.Timetable{
		Name: "main",
		Days: []api.DayKind{
			{Name: "work", Rows: []api.Row{{Minute: 390, Slot: 2}, {Minute: 1320, Slot: -1}}},
			{Name: "rest", Rows: []api.Row{{Minute: 480, Slot: 1}}},
		},
		Week:    [7]int{0, 0, 0, 0, 0, 1, 1},
		Excepts: []api.Except{{Day: 9855, Kind: 1}},
		Shifts:  []api.Shift{{Minute: 9584*1440 + 120, Plus: 60}, {Minute: 9794*1440 + 120, Plus: 0}},
	})
}

// P18.1: all kinds of lines; the lists have the text's order, whatever stands between their lines.
func TestParseLines(t *testing.T) {
	want := api.Timetable{
		Name: "a",
		Days: []api.DayKind{
			{Name: "b", Rows: []api.Row{{Minute: 0, Slot: 0}, {Minute: 1, Slot: 7}, {Minute: 1439, Slot: -1}}},
			{Name: "c", Rows: []api.Row{{Minute: 60, Slot: 3}}},
			{Name: "d", Rows: []api.Row{{Minute: 0, Slot: -1}}},
		},
		Week:    [7]int{1, 0, 0, 0, 0, 0, 1},
		Seasons: []api.Season{{From: 146096, To: 146096, Week: [7]int{1, 1, 1, 1, 1, 1, 0}}, {From: 0, To: 146096, Week: [7]int{2, 1, 0, 0, 0, 0, 0}}},
		Excepts: []api.Except{{Day: 59, Kind: 1}, {Day: 0, Kind: 2}, {Day: 146096, Kind: 0}},
		Shifts:  []api.Shift{{Minute: 0, Plus: 840}, {Minute: 1, Plus: -720}, {Minute: 1440, Plus: 0}, {Minute: 210379679, Plus: 60}},
	}
	checkParse(t, lines("timetable a",
		"shift 2000-01-01 00:00 +840",
		"day b", "at 00:00 slot 0", "shift 2000-01-01 00:01 -720", "at 00:01 slot 7", "at 23:59 flash",
		"day c", "at 01:00 slot 3", "week c b b b b b c",
		"on 2000-02-29 c", "season 2399-12-31 2399-12-31 c c c c c c b",
		"day d", "on 2000-01-01 d", "at 00:00 flash", "season 2000-01-01 2399-12-31 d c b b b b b",
		"shift 2000-01-02 00:00 -0", "on 2399-12-31 b", "shift 2399-12-31 23:59 +060"), want)
	plain := api.Timetable{Name: "a", Days: []api.DayKind{{Name: "b", Rows: []api.Row{{Minute: 60, Slot: 1}}}, {Name: "c", Rows: []api.Row{{Minute: 120, Slot: -1}}}}, Week: [7]int{0, 0, 1, 0, 0, 0, 1}}
	checkParse(t, head+week, plain)
	// Words of lines are names too.
	plain.Name, plain.Days[0].Name, plain.Days[1].Name = "timetable", "week", "at"
	checkParse(t, "timetable timetable\nday week\nat 01:00 slot 1\nday at\nat 02:00 flash\nweek week week at week week week at", plain)
}

// P18.1: blanks, comments, empty lines, the last line.
func TestParseBlanks(t *testing.T) {
	want := parsed(t, head+week)
	for _, text := range []string{
		head + strings.TrimSuffix(week, "\n"),
		strings.ReplaceAll(head+week, "\n", "\r\n"),
		strings.ReplaceAll(head+week, " ", " \t\r "),
		strings.ReplaceAll(head+week, "\n", "\n\n \t\r\n"),
		strings.ReplaceAll(head+week, "\n", "#\n"),
		strings.ReplaceAll(head+week, "\n", " # day x # week\x00\xff\n"),
		strings.ReplaceAll(head+week, "\n", "\n#timetable b\n  # day\n"),
		"\n\n" + head + week + "\n\n# end",
		" " + strings.ReplaceAll(head+week, "\n", " \n\t"),
	} {
		checkParse(t, text, want)
	}
}

// P18.1: texts of the longest length, and longer ones.
func TestParseLength(t *testing.T) {
	want := parsed(t, head+week)
	for _, fill := range []string{"#", " ", "\n", "\n# x"} {
		text := head + week + strings.Repeat(fill, 65536)
		checkParse(t, text[:65535], want)
		checkParse(t, text[:65536], want)
		checkFault(t, text[:65537], api.ErrTableSource)
		checkFault(t, text, api.ErrTableSource)
	}
	// It goes ahead of all that is wrong in the text.
	checkFault(t, "@"+strings.Repeat("x", 65536), api.ErrTableLine)
	checkFault(t, strings.Repeat("x", 65537), api.ErrTableSource)
	checkFault(t, strings.Repeat("\n", 65536), api.ErrTableLack)
	checkFault(t, strings.Repeat("\n", 65537), api.ErrTableSource)
	checkFault(t, strings.Repeat("\n", 65530)+"@day b", api.ErrTableLine)
}

// P18.1: the chapter's examples of faults, and the first word of lines.
func TestFirstWords(t *testing.T) {
	for _, text := range []string{
		"@day b", "@at 01:00 flash", "@week b", "@x", "@timetables a", "@Timetable a", "@a", "\n\n # \n  @day b", "@timetabl\n", "@\x00", "@\xff\xfe timetable a", "@é",
		"timetable a\n@timetable a", "timetable a\n@timetable", head + "@timetable a b c", head + week + " @timetable b",
		"timetable a\n@night b", head + "@Day d", head + "@at: 03:00 flash", head + "@AT 03:00 flash", head + "@slot 1", head + "@flash", head + "@. x", head + week + "@weeks",
		"timetable a\n@at 01:00 flash", "timetable a\n@at", "timetable a\nshift 2026-01-01 00:00 +0\n@at 25:00 x y z\nday b",
		"@timetable\vb", "@timetable\u00a0b", "@\u2003timetable b", "@timetable\fb",
	} {
		checkFault(t, text, api.ErrTableLine)
	}
}

// P18.1: words that are missing (behind the line's last word), and one too many.
func TestWordCounts(t *testing.T) {
	for _, line := range []string{"day x", "at 03:00 flash", "at 03:00 slot 7", "week b b c b b b c", "season 2026-01-01 2026-01-02 b b b b b b c", "on 2026-01-01 b", "shift 2026-01-01 00:00 +0"} {
		checkFault(t, head+line+" @more", api.ErrTableLine)
		checkFault(t, head+line+"\t @8 9 # 10\nx", api.ErrTableLine)
		for words := strings.Fields(line); len(words) > 1; {
			words = words[:len(words)-1]
			short := strings.Join(words, " ")
			checkFault(t, head+short+"@", api.ErrTableLine)
			checkFault(t, head+"  "+short+"@ \t\r\nx", api.ErrTableLine)
			checkFault(t, head+short+"@# 01:00", api.ErrTableLine)
			checkFault(t, head+short+"@   #", api.ErrTableLine)
		}
	}
	for _, text := range []string{"timetable@", " timetable@", "timetable@ \n", "timetable@#a", "timetable a @b", "timetable a @timetable a", "timetable a\t@9 #"} {
		checkFault(t, text, api.ErrTableLine)
	}
}

// P18.1: names and what is none, wherever a name stands.
func TestParseNames(t *testing.T) {
	for name, is := range names() {
		if name == "" {
			continue
		}
		text := fmt.Sprintf("timetable %s\nday %s\nat 00:00 flash\nweek %s %s %s %s %s %s %s\non 2000-01-01 %s\n", name, name, name, name, name, name, name, name, name, name)
		if is {
			checkParse(t, text, api.Timetable{Name: name, Days: []api.DayKind{{Name: name, Rows: []api.Row{{Slot: -1}}}}, Excepts: []api.Except{{}}})
			checkFault(t, head+"week @"+name, api.ErrTableDay)
			checkFault(t, head+"on 2000-01-01 @"+name, api.ErrTableDay)
			checkFault(t, head+"season 2000-01-01 2000-01-01 b b b b b b @"+name, api.ErrTableDay)
			continue
		}
		name = strings.ReplaceAll(name, "@", "!")
		checkFault(t, "timetable @"+name, api.ErrTableLine)
		checkFault(t, head+"day @"+name, api.ErrTableLine)
		checkFault(t, head+"week b b b b b b @"+name, api.ErrTableLine)
		checkFault(t, head+"on 2000-01-01 @"+name, api.ErrTableLine)
		checkFault(t, head+"season 2000-01-01 2000-01-01 @"+name, api.ErrTableLine)
	}
}

// P18.1: a NAME that no day above it has, even if one below has it.
func TestParseKinds(t *testing.T) {
	for _, text := range []string{
		"timetable a\nweek @b b b b b b b\nday b\nat 00:00 flash", "timetable a\non 2000-01-01 @b", "timetable a\nday b\nseason 2000-01-01 2000-01-01 b b @c b b b b\nday c",
		head + "week b c @d b b b b", head + "week b b b b b b @B", head + "on 2000-01-01 @a", head + "on 2000-01-01 @bb c", head + "week @d 9", head + "season 2000-01-01 2000-01-01 b @day",
	} {
		checkFault(t, text, api.ErrTableDay)
	}
}

// P18.1: clocks.
func TestParseClocks(t *testing.T) {
	for word, minute := range map[string]int{"00:00": 0, "00:01": 1, "00:59": 59, "01:00": 60, "09:09": 549, "10:00": 600, "19:59": 1199, "20:00": 1200, "23:00": 1380, "23:59": 1439} {
		text := "timetable a\nday b\nat " + word + " slot 7\nweek b b b b b b b\nshift 2000-01-02 " + word + " +0"
		checkParse(t, text, api.Timetable{Name: "a", Days: []api.DayKind{{Name: "b", Rows: []api.Row{{Minute: minute, Slot: 7}}}}, Shifts: []api.Shift{{Minute: 1440 + minute}}})
	}
	for _, word := range []string{"24:00", "23:60", "00:60", "99:99", "00:99", "6:30", "06:3", "006:30", "06:030", "0630", "06-30", "06.30", "06:30:00", ":30", "06:", "x", "0x:30", "06:3x", "-1:30", "+6:30", "06:-1", "06;30", "06:3O", "06:30,", "slot", "flash", "06：30", "०६:30", "00:0\x00", "/0:00", ":0:00", "00:/0", "00::0"} {
		checkFault(t, "timetable a\nday b\nat @"+word+" slot 9 9", api.ErrTableClock)
		checkFault(t, head+"shift 2000-01-01 @"+word, api.ErrTableClock)
	}
}

// P18.1: slots and flash.
func TestParseSlots(t *testing.T) {
	for i := range 8 {
		text := fmt.Sprintf("timetable a\nday b\nat 00:00 slot %d\nweek b b b b b b b", i)
		checkParse(t, text, api.Timetable{Name: "a", Days: []api.DayKind{{Name: "b", Rows: []api.Row{{Slot: i}}}}})
	}
	for _, word := range []string{"8", "9", "-1", "00", "07", "10", "+1", "x", "flash", "slot", "１", "7.", "/", ":", "\x00"} {
		checkFault(t, head+"at 03:00 slot @"+word+" x", api.ErrTableLine)
	}
	for _, word := range []string{"Flash", "Slot", "flashing", "slo", "slot1", "plan", "1", "-1", "off", "at"} {
		checkFault(t, head+"at 03:00 @"+word+" 1", api.ErrTableLine)
	}
	checkFault(t, head+"at 03:00 flash @1", api.ErrTableLine)
}

// P18.1: dates.
func TestParseDates(t *testing.T) {
	for word, day := range map[string]int{"2000-01-01": 0, "2000-01-31": 30, "2000-02-29": 59, "2000-12-31": 365, "2096-02-29": 35123, "2100-02-28": 36583, "2100-03-01": 36584, "2399-12-31": 146096} {
		text := fmt.Sprintf("timetable a\nday b\nat 00:00 slot 0\nweek b b b b b b b\non %s b\nseason %s %s b b b b b b b\nshift %s 00:00 +1", word, word, word, word)
		checkParse(t, text, api.Timetable{Name: "a", Days: []api.DayKind{{Name: "b", Rows: []api.Row{{}}}}, Seasons: []api.Season{{From: day, To: day}}, Excepts: []api.Except{{Day: day}}, Shifts: []api.Shift{{Minute: 1440 * day, Plus: 1}}})
	}
	for _, word := range []string{
		"1999-12-31", "2400-01-01", "2400-02-29", "2100-02-29", "2001-02-29", "2000-02-30", "2026-04-31", "2026-00-01", "2026-13-01", "2026-01-00", "2026-01-32", "0000-00-00", "9999-12-31",
		"26-01-01", "2026-1-1", "2026-01-1", "2026-001-01", "02026-01-01", "2026-01-001", "20260101", "2026/01/01", "2026-01_01", "2026:01-01", "2026-01-01-", "-2026-01-01", "2026-01-0x", "2026-0x-01", "202x-01-01", "+026-01-01", "2026-+1-01", "2026-01--1", "x", "b", "２026-01-01", "20-01-01",
	} {
		checkFault(t, head+"on @"+word+" 9", api.ErrTableDate)
		checkFault(t, head+"shift @"+word+" 9", api.ErrTableDate)
		checkFault(t, head+"season @"+word+" 9", api.ErrTableDate)
		checkFault(t, head+"season 2000-01-01 @"+word+" 9", api.ErrTableDate)
	}
	checkFault(t, head+"season 2026-02-02 @2026-02-01 9", api.ErrTableDate)
	checkFault(t, head+"season 2026-01-01 @2025-12-31", api.ErrTableDate)
	checkFault(t, head+"season 2399-12-31 @2000-01-01 b b b b b b b b", api.ErrTableDate)
	checkFault(t, head+"season 2026-02-02 2026-02-02 @9", api.ErrTableLine)
}

// P18.1: what a shift adds.
func TestParsePlus(t *testing.T) {
	for word, plus := range map[string]int{"+0": 0, "-0": 0, "+00": 0, "-000": 0, "+1": 1, "-1": -1, "+060": 60, "-060": -60, "+60": 60, "+840": 840, "-720": -720, "+839": 839, "-719": -719, "+009": 9, "-09": -9} {
		table := parsed(t, head+week+"shift 2000-01-01 00:00 "+word)
		if len(table.Shifts) != 1 || table.Shifts[0].Plus != plus {
			t.Errorf("P18.1: %s: %v, want %d", word, table.Shifts, plus)
		}
	}
	for _, word := range []string{"+841", "-721", "+999", "-999", "-840", "+842", "-722"} {
		checkFault(t, head+"shift 2000-01-01 00:00 @"+word+" x", api.ErrTableClock)
	}
	for _, word := range []string{"60", "0", "+", "-", "++1", "--1", "+-1", "-+1", "+0060", "-0720", "+1000", "+1x", "+x1", "x60", "+1.", "*60", "60+", "+1_0", "+0x1", "−60", "+٣", ",60", "+/", "+:"} {
		checkFault(t, head+"shift 2000-01-01 00:00 @"+word+" x", api.ErrTableLine)
	}
}

// P18.1: the same twice.
func TestParseTwice(t *testing.T) {
	for _, text := range []string{
		head + "day @b", head + "day @c x", "timetable a\nday a\nday @a", head + "day d\nday @b",
		head + week + "@week b b b b b b b", head + week + "@week", head + week + "@week x 9 \xff", head + week + "day d\n\n @week d",
		head + "on 2026-02-28 b\non @2026-02-28 c", head + "on 2026-02-28 b\non @2026-02-28", head + "on 2026-02-28 b\non @2026-02-28 9", head + "on 2000-01-01 b\non 2000-01-02 b\non @2000-01-01 b", head + "on 2399-12-31 b\non 2000-01-02 b\non @2399-12-31 b",
	} {
		checkFault(t, text, api.ErrTableTwice)
	}
	// Seasons may be the same, and names that differ in a letter's size are different ones.
	checkFault(t, head+week+"season 2000-01-01 2000-01-01 b b b b b b b\nseason 2000-01-01 2000-01-01 b b b b b b b\nday B\nat 00:00 flash", api.OK)
}

// P18.1: what does not rise.
func TestParseOrder(t *testing.T) {
	for _, text := range []string{
		head + "at @02:00 slot 1", head + "at @01:59", head + "at @00:00 x", head + "at 23:59 flash\nat @23:59 flash", head + "at 02:01 flash\nat @02:00", head + "shift 2000-01-01 00:00 +0\nat @02:00 flash",
		head + "shift 2000-01-01 00:00 +0\nshift 2000-01-01 @00:00 +1", head + "shift 2000-01-02 00:00 +0\nshift 2000-01-01 @23:59", head + "shift 2399-12-31 23:59 +0\nshift 2399-12-31 @23:59 x", head + "shift 2000-01-01 12:00 +0\nshift 2000-01-01 @11:59 x y",
	} {
		checkFault(t, text, api.ErrTableOrder)
	}
	// Each kind has its own rows; Seasons and Excepts need not rise.
	checkFault(t, head+week+"day d\nat 00:00 flash\nat 00:01 flash\non 2000-01-02 b\non 2000-01-01 b\nseason 2000-01-02 2000-01-03 b b b b b b b\nseason 2000-01-01 2000-01-01 b b b b b b b", api.OK)
}

// listText is a text with so many of each list's entries.
func listText(kinds, rows, seasons, excepts, shifts int) string {
	text := "timetable a\n"
	for i := range kinds {
		text += fmt.Sprintf("day k%d\nat 00:00 flash\n", i)
	}
	for i := range rows - 1 {
		text += fmt.Sprintf("at %02d:%02d slot 1\n", (i+1)/60, (i+1)%60)
	}
	text += "week k0 k0 k0 k0 k0 k0 k0\n"
	text += strings.Repeat("season 2000-01-01 2000-01-01 k0 k0 k0 k0 k0 k0 k0\n", seasons)
	for i := range excepts {
		text += fmt.Sprintf("on %04d-01-01 k0\n", 2000+i)
	}
	for i := range shifts {
		text += fmt.Sprintf("shift %04d-01-01 00:00 +1\n", 2000+i)
	}
	return text
}

// P18.1, G8: each list at its limit, and one past it: at the first word, whatever stands behind it.
func TestParseFull(t *testing.T) {
	full := listText(16, 48, 16, 64, 16)
	table := parsed(t, full)
	if len(table.Days) != 16 || len(table.Days[15].Rows) != 48 || len(table.Seasons) != 16 || len(table.Excepts) != 64 || len(table.Shifts) != 16 {
		t.Errorf("P18.1: %+v", table)
	}
	for _, word := range []string{"day", "at", "season", "on", "shift"} {
		for _, rest := range []string{"", " 9", " x y z", " 2000-01-01", " k0", " 00:00", " 23:59 flash"} {
			checkFault(t, full+" @"+word+rest, api.ErrTableFull)
		}
	}
	for _, c := range []struct {
		text string
		next string
	}{
		{listText(15, 48, 16, 64, 16), "day x\nat 00:00 flash"},
		{listText(16, 47, 16, 64, 16), "at 23:59 flash"},
		{listText(16, 48, 15, 64, 16), "season 2000-01-01 2000-01-01 k0 k0 k0 k0 k0 k0 k0"},
		{listText(16, 48, 16, 63, 16), "on 2300-01-01 k0"},
		{listText(16, 48, 16, 64, 15), "shift 2300-01-01 00:00 +1"},
	} {
		checkFault(t, c.text+c.next, api.OK)
		checkFault(t, c.text+c.next+"\n@"+c.next, api.ErrTableFull)
		checkFault(t, c.text+c.next+" @x\n"+c.next, api.ErrTableLine)
	}
	// A new kind has room for rows again.
	checkFault(t, listText(15, 48, 1, 1, 1)+"day x\nat 00:00 flash", api.OK)
}

// P18.1: what lacks behind the last line, at no place.
func TestParseLack(t *testing.T) {
	for _, text := range []string{
		"", "\n", " \t\r\n\n", "# timetable a", "timetable a", "timetable a\n", head, "timetable a\nday b\nat 01:00 flash",
		"timetable a\nday b\nweek b b b b b b b", "timetable a\nday b\nday c\nat 00:00 flash\nweek b b b b b b b", "timetable a\nday b\nat 00:00 flash\nday c\nweek b b b b b b b\non 2000-01-01 b",
		"timetable a\nshift 2000-01-01 00:00 +0",
	} {
		checkFault(t, text, api.ErrTableLack)
	}
	// The first line with a fault goes ahead.
	checkFault(t, "timetable a\n@x", api.ErrTableLine)
}

// P18.1: the first line with a fault is told, and in it the first word with one.
func TestFirstFault(t *testing.T) {
	checkFault(t, head+"day @b\nday c\nx", api.ErrTableTwice)
	checkFault(t, head+"at @24:00 plan 9\nat 00:00", api.ErrTableClock)
	checkFault(t, head+"at @01:00 plan 9", api.ErrTableOrder)
	checkFault(t, head+"at 03:00 @plan 9 10", api.ErrTableLine)
	checkFault(t, head+"week b @9 d", api.ErrTableLine)
	checkFault(t, head+"week b @d 9", api.ErrTableDay)
	checkFault(t, head+"week @d", api.ErrTableDay)
	checkFault(t, head+"season @2026-02-30 2026-01-01 9", api.ErrTableDate)
	checkFault(t, head+"season 2026-02-02 @2026-01-01 9", api.ErrTableDate)
	checkFault(t, head+"season 2026-02-02 2026-03-01 @d 9", api.ErrTableDay)
	checkFault(t, head+"on @2026-02-30 d x", api.ErrTableDate)
	checkFault(t, head+"on 2026-02-20 @d x", api.ErrTableDay)
	checkFault(t, head+"on 2026-02-20 b @x", api.ErrTableLine)
	checkFault(t, head+"shift @2026-02-30 24:00 60", api.ErrTableDate)
	checkFault(t, head+"shift 2026-02-20 @24:00 60", api.ErrTableClock)
	checkFault(t, head+"shift 2026-02-20 23:00 @60 x", api.ErrTableLine)
	checkFault(t, head+"shift 2026-02-20 23:00 @+900 x", api.ErrTableClock)
	checkFault(t, "timetable @9 x\nx", api.ErrTableLine)
	checkFault(t, "timetable a @x\ntimetable a", api.ErrTableLine)
}

// The chapter's examples of faults.
func TestFaultExamples(t *testing.T) {
	checkFault(t, "timetable a\nday b\nat @6:30 flash\n", api.ErrTableClock)
	checkFault(t, "timetable a\nday b\nat 06:30 flash @now", api.ErrTableLine)
	checkFault(t, "@day b", api.ErrTableLine)
	checkFault(t, "timetable a\nday b\nat 01:00 slot 1\nweek b b b b b b@", api.ErrTableLine)
	if _, f := timetable.Parse("timetable a\nday b\nat 01:00 slot 1\nweek b b b b b b"); f != (api.Fault{Code: api.ErrTableLine, At: api.Pos{Line: 4, Col: 17}}) {
		t.Errorf("P18.1: %v", f)
	}
}

var anyWord = regexp.MustCompile(`[^ \t\r\n#]+`)

// smudged is a text with words, lines and blanks that are lost, doubled, moved or changed.
func smudged(r *rand.Rand, text string) string {
	wild := []string{"timetable", "day", "at", "slot", "flash", "week", "season", "on", "shift", "b", "x", "9", "00:00", "12:00", "24:00", "2000-01-01", "2026-02-29", "2399-12-31", "+0", "-720", "+841", "60", "7", "8", "#", "\n", " ", "\r", "\x00", "\xff", "é", "\v"}
	for range pick(r, 0, 1, 1, 1, 2, 3) {
		list := strings.SplitAfter(text, "\n")
		i, j := r.Intn(len(list)), r.Intn(len(list))
		switch words := anyWord.FindAllStringIndex(list[i], -1); r.Intn(8) {
		case 0:
			list[i] = ""
		case 1:
			list[i] += list[i]
		case 2:
			list[i], list[j] = list[j], list[i]
		case 3:
			at := r.Intn(len(list[i]) + 1)
			list[i] = list[i][:at] + pick(r, wild...) + list[i][at:]
		default:
			if len(words) == 0 {
				break
			}
			word := words[r.Intn(len(words))]
			other := pick(r, "", pick(r, wild...), list[i][word[0]:word[1]]+" "+pick(r, wild...), list[i][word[0]:word[1]]+pick(r, wild...))
			if words := anyWord.FindAllString(list[j], -1); len(words) > 0 && r.Intn(3) == 0 {
				other = pick(r, words...)
			}
			list[i] = list[i][:word[0]] + other + list[i][word[1]:]
		}
		text = strings.Join(list, "")
	}
	return text
}

// dressed is a text with other blanks, comments and ends of lines, that says the same.
func dressed(r *rand.Rand, text string) string {
	if r.Intn(2) == 0 {
		return text
	}
	var b strings.Builder
	for _, x := range []byte(text) {
		switch {
		case x == ' ':
			b.WriteString(pick(r, " ", " ", "  ", "\t", "\r", " \t\r "))
		case x == '\n':
			b.WriteString(pick(r, "\n", "\n", "\r\n", " # x y\n", "#\n", "\n\n", "\n \t#\n  "))
		default:
			b.WriteByte(x)
		}
	}
	if r.Intn(2) == 0 {
		return strings.TrimSuffix(b.String(), "\n")
	}
	return b.String()
}

// P18.1: texts of any timetables, right and with wrong words and lines, held against a second way.
func TestParseAgainstModel(t *testing.T) {
	t.Parallel()
	seen := map[api.Errno]int{}
	for seed := range int64(15000) {
		r := rand.New(rand.NewSource(seed))
		text := smudged(r, dressed(r, modelPrint(anyTable(r, anyDay(r)))))
		want, fault := modelParse(text)
		table, f := timetable.Parse(text)
		if f != fault || !same(table, want) {
			t.Fatalf("P18.1: seed %d: %v, want %v of %q", seed, f, fault, text)
		}
		if e := timetable.Sound(table); f.Code == api.OK && e != api.OK {
			t.Fatalf("P18.1: seed %d: not sound: %d", seed, e)
		}
		seen[f.Code]++
	}
	for _, e := range []api.Errno{api.OK, api.ErrTableLine, api.ErrTableDate, api.ErrTableClock, api.ErrTableDay, api.ErrTableTwice, api.ErrTableOrder, api.ErrTableFull, api.ErrTableLack} {
		if seen[e] < 50 {
			t.Errorf("%v", seen)
		}
	}
}
