package station_test

import (
	"bytes"
	"strings"
	"testing"

	"junction/api"
	"junction/driver"
	"junction/station"
)

// The chapter's examples.
func TestExamples(t *testing.T) {
	const on = "flash 8 / power on / "
	wants(t, "P19.1", "show", off)
	wants(t, "P19.2", "power on", "station: off")
	wants(t, "P19.2", on+"show", "ok / ok / power on slots none picked auto runs none mode dark ticks 0 alarms 0 clock 2000-01-01 00:00:00")
	wants(t, "P19.2", on+"run 3*0", "ok / ok / 0-2 * -")
	const shown = "ok / ok / 0-2 * - / ok / ok / 3-10 rrr - / 11-12 lrr - / 13-14 grr 0"
	wants(t, "P19.2", on+"run 3*0 / put 1 / {small} / . / pick 1 / run 12*0", shown)
	wants(t, "P19.2", on+"run 3*0 / put 1 / {small} / . / pick 1 / run 12*0 / put 1 / {small} / . / run 1*0", shown+" / ok / 15 grr 0")
	wants(t, "P19.2", on+"run 3*0 / put 1 / {small} / . / pick 1 / run 12*0 / pick auto / run 9*0", shown+" / ok / 15-19 grr - / 20-22 arr - / 23 rrr -")
	wants(t, "P19.2", on+"put 1 / {small} / . / pick 1 / stick 1 g / run 2*0 / log", "ok / ok / ok / ok / ok / 0 rrr - / 1 ... - / 2 0 1 -1")
	wants(t, "P19.2", "hello", "station: no command")
	wants(t, "P19.2", on+"pick 1", "ok / ok / bank: an empty slot")
}

// P19.2: words are parted by blanks, a byte 10 among them, up to a comment.
func TestWords(t *testing.T) {
	for _, line := range []string{"show", " show", "show ", "\tshow\t", "\r\nshow\r\n", "show# now", "show #", "show #\nnow # and then", "\n\n\nshow"} {
		if got, e := station.New().Do(line); got != off || e != api.OK {
			t.Errorf("P19.2: %q: %q %d", line, got, e)
		}
	}
	for _, line := range []string{"", " ", "\t", "\r", "\n", " \t\r\n", "#", "# show", "\n#show", "#\nshow"} {
		if got, e := station.New().Do(line); got != "" || e != api.OK {
			t.Errorf("P19.2: %q: %q %d", line, got, e)
		}
	}
	for _, line := range []string{"sh#ow", "Show", "SHOW", "show\x00", "show\v", "show\f", "\u00a0show", "show\u2003", "show\xff", "\xc2show", "show\x85", ".", ". #", "..", "+", "-", "show.", "auto", "on", "ok"} {
		if got, e := station.New().Do(line); got != "station: no command" || e != api.ErrScript {
			t.Errorf("P19.2: %q: %q %d", line, got, e)
		}
	}
	m := stand(t, "flash 8 / power on / put\t1 / {small} / .\t# end")
	for _, c := range [][2]string{{"pick\n1 # 2", "ok"}, {"run\n2*0\t\r 0\n#1", "0-2 rrr -"}} {
		if got, e := m.Do(c[0]); got != c[1] || e != api.OK {
			t.Errorf("P19.2: %q: %q %d", c[0], got, e)
		}
	}
}

// commands are the words of the lines, with how many words each has; of run it is the least number.
var commands = map[string]int{"flash": 2, "power": 2, "put": 2, "hex": 2, "drop": 2, "pick": 2, "clock": 3, "run": 2, "bytes": 2, "timeout": 1, "stick": 3, "free": 1, "reset": 1, "log": 1, "show": 1, "crash": 3}

// ErrScript comes ahead of all else: whatever the power and the words.
func TestWordsNumber(t *testing.T) {
	for word, n := range commands {
		for _, script := range []string{"show", "flash 8", "flash 8 / power on", "flash 8 / power on / put 1 / {small} / . / pick 1 / stick 0 g / run 9*0"} {
			m := stand(t, script)
			for have := 1; have < 6; have++ {
				line := word + strings.Repeat(" x", have-1)
				_, e := m.Do(line)
				if right := have == n || word == "run" && have > n; (e == api.ErrScript) == right {
					t.Errorf("P19.2: %q behind %q: %d", line, script, e)
				}
				if n > 1 && have == n && word != "run" && e != api.ErrArg {
					t.Errorf("P19.2: %q behind %q: %d", line, script, e)
				}
			}
		}
	}
}

// badWords are lines with the right number of words, one of which has not its form or its range.
var badWords = []string{
	"flash x", "flash -1", "flash +1", "flash 8.0", "flash 0x8", "flash 1234567890", "flash 0000000008", "flash 8,", "flash \xb2", "flash auto",
	"power up", "power On", "power o", "power onn", "power 1", "power -",
	"put x", "put -1", "put 1234567890", "put 0000000001", "put 1.", "put auto", "put .",
	"hex x", "hex -1", "hex 1234567890", "hex 0000000001", "hex 0x1", "hex auto",
	"drop x", "drop -1", "drop 1234567890", "drop 0000000001", "drop auto",
	"pick x", "pick -1", "pick 1234567890", "pick 0000000001", "pick Auto", "pick autos", "pick aut", "pick none",
	"clock 2026-02-29 10:00", "clock 2100-02-29 10:00", "clock 1999-12-31 10:00", "clock 2400-01-01 10:00", "clock 2026-04-31 10:00", "clock 2026-00-10 10:00", "clock 2026-13-10 10:00", "clock 2026-01-00 10:00", "clock 2026-1-10 10:00", "clock 26-01-10 10:00", "clock 02026-01-10 10:00", "clock 2026-01-1 10:00", "clock 2026/01/10 10:00", "clock 2026-01:10 10:00", "clock 20260110 10:00", "clock 2026-01-100 10:00", "clock 2026-01-1x 10:00", "clock -026-01-10 10:00", "clock 2026-+1-10 10:00",
	"clock 2026-01-10 24:00", "clock 2026-01-10 10:60", "clock 2026-01-10 1:00", "clock 2026-01-10 10:0", "clock 2026-01-10 10:000", "clock 2026-01-10 10-00", "clock 2026-01-10 10.00", "clock 2026-01-10 1000", "clock 2026-01-10 -1:00", "clock 2026-01-10 x0:00", "clock 2026-01-10 10:0:", "clock 10:00 2026-01-10",
	"bytes 7", "bytes 7g", "bytes g7", "bytes 7e7", "bytes 7:", "bytes 0x7e", "bytes --", "bytes -7", "bytes 7-", "bytes \x11\x11", "bytes /0", "bytes `0", "bytes @0", "bytes G0", "bytes \xe0\xe0", "bytes \u0661\u0661",
	"stick 64 r", "stick 123456789 r", "stick 1234567890 r", "stick -1 r", "stick x r", "stick r 0", "stick 0000000001 r", "stick 0 x", "stick 0 R", "stick 0 .", "stick 0 rr", "stick 0 rl", "stick 0 rlga", "stick 0 0", "stick 0 lg",
	"crash x 0", "crash -1 0", "crash 1234567890 0", "crash 0 256", "crash 0 -1", "crash 0 x", "crash 0 0xff", "crash 0 1234567890", "crash 0 0000000255", "crash 0 123456789",
}

// ErrArg of a word comes ahead of the lack of power, and ahead of what the table says.
func TestBadWords(t *testing.T) {
	for _, script := range []string{"show", "flash 8", "flash 8 / power on", "flash 8 / power on / put 1 / {quick} / . / pick 1 / run 3*0"} {
		m := stand(t, script)
		flash, state := m.Flash(), m.does("show")
		for _, line := range badWords {
			m.refuses("P19.2", line, api.ErrArg)
		}
		if m.does("show") != state || !bytes.Equal(m.Flash(), flash) {
			t.Errorf("P19.2: what is refused has done something: %q, %q", m.does("show"), state)
		}
	}
}

// goodWords are lines whose words are as they should be, at the edges of their forms, with the power on.
var goodWords = []string{
	"clock 2000-01-01 00:00", "clock 2399-12-31 23:59", "clock 2024-02-29 09:09", "clock 2000-02-29 19:59", "stick 0 r", "stick 63 l", "stick 000000063 g", "stick 7 a", "free", "show", "log", "timeout", "pick auto", "bytes -", "bytes 00", "bytes 7E7e", "bytes 0123456789abcdefABCDEF", "run 0", "run 1 2*3 fF", "run 000002*0",
}

func TestGoodWords(t *testing.T) {
	for _, line := range goodWords {
		m := stand(t, "flash 8 / power on")
		if got, e := m.Do(line); e != api.OK || got == "" {
			t.Errorf("P19.2: %q: %q %d", line, got, e)
		}
	}
}

// Each line that needs the power is refused without it; the others are not.
func TestOff(t *testing.T) {
	for _, script := range []string{"show", "flash 8", "flash 8 / power on / put 1 / {small} / . / pick 1 / run 0 / power off", "flash 8 / power on / crash 0 0"} {
		m := stand(t, script)
		flash, state := m.Flash(), m.does("show")
		for _, line := range []string{"power off", "put 0", "put 8", "put 9", "put 123456789", "hex 0", "hex 8", "hex 9", "drop 0", "drop 9", "pick 0", "pick 8", "pick 9", "pick auto", "run 0", "run x", "run 65537*0", "bytes -", "bytes 7e", "timeout", "reset", "log", "crash 0 0", "crash 999999999 255"} {
			m.refuses("P19.2", line, api.ErrOff)
		}
		if m.does("show") != state || !bytes.Equal(m.Flash(), flash) {
			t.Errorf("P19.2: what is refused has done something behind %q", script)
		}
		for _, line := range []string{"clock 2026-11-14 07:30", "stick 5 g", "free"} {
			m.says("P19.2", line, "ok")
		}
		m.says("P19.2", "show", "power off clock 2026-11-14 07:30:00")
	}
}

// Each line that asks for the power to be off is refused with it.
func TestOn(t *testing.T) {
	m := stand(t, "flash 8 / power on")
	for _, line := range []string{"flash 8", "flash 0", "flash 3", "flash 4097", "flash 999999999", "power on"} {
		m.refuses("P19.2", line, api.ErrArg)
	}
	m.refuses("P19.2", "reset", api.ErrArg)
	m.says("P19.2", "power off / flash 4 / power on / power off / show", off)
}

// The errors of flash, and the sectors at its edges.
func TestSectors(t *testing.T) {
	for _, line := range []string{"flash 0", "flash 3", "flash 4097", "flash 999999999", "flash 000000000"} {
		m := stand(t, "show")
		m.refuses("P19.2", line, api.ErrDisk)
		m.refuses("P19.2", "power on", api.ErrOff)
	}
	for line, n := range map[string]int{"flash 4": 4, "flash 5": 5, "flash 000000004": 4, "flash 4096": 4096} {
		m := stand(t, line)
		if len(m.Flash()) != n*1024 {
			t.Errorf("P19.2: %s: %d bytes", line, len(m.Flash()))
		}
	}
}

// Slots 7, 8 and 9, and the errors of the bank.
func TestSlots(t *testing.T) {
	m := stand(t, "flash 16 / power on / put 7 / {quick} / . / put 8 / {table} / . / put 0 / {small} / .")
	m.says("P19.2", "show", "power on slots 0,7,8 picked auto runs none mode dark ticks 0 alarms 0 clock 2000-01-01 00:00:00")
	for _, line := range []string{"put 9", "put 10", "put 255", "put 999999999", "hex 9", "hex 123456789", "pick 8", "pick 9", "pick 255", "pick 999999999", "drop 9", "drop 255", "drop 999999999"} {
		m.refuses("P19.2", line, api.ErrSlot)
	}
	for _, line := range []string{"drop 1", "drop 6", "pick 1", "pick 6"} {
		m.refuses("P19.2", line, api.ErrEmpty)
	}
	m.says("P19.2", "pick 7", "ok")
	m.refuses("P19.2", "drop 7", api.ErrInUse)
	m.says("P19.2", "pick 000000007 / pick 0 / drop 7 / drop 8 / show", "power on slots 0 picked 0 runs none mode dark ticks 0 alarms 0 clock 2000-01-01 00:00:00")
	m.refuses("P19.2", "drop 8", api.ErrEmpty)
	m.says("P19.2", "pick auto / drop 0 / show", "power on slots none picked auto runs none mode dark ticks 0 alarms 0 clock 2000-01-01 00:00:00")
}

// No room: a plan of some 290 bytes, again and again, in a flash of halves of 2048.
func TestRoom(t *testing.T) {
	m := stand(t, "flash 4 / power on")
	size, used := len(imageOf(t, small))+11, 16
	for slot := range 8 {
		m.does("put " + string(rune('0'+slot)) + " / " + strings.TrimSuffix(small, "\n"))
		answer, e := m.Do(".")
		used += size
		if fits := used <= 2048; fits != (e == api.OK) || !fits && (answer != "bank: no room" || e != api.ErrSpace) {
			t.Errorf("P19.2: %d bytes: %q %d", used, answer, e)
		}
		if e != api.OK {
			used -= size
		}
	}
	if used < 1500 {
		t.Errorf("%d bytes are used", used)
	}
}

// The inputs of a run.
func TestInputs(t *testing.T) {
	m := stand(t, "flash 8 / power on")
	for _, line := range []string{"run x", "run 0*0", "run 1*", "run *1", "run 0 x", "run 65537*0", "run 65536*0 0", "run 11111111111111111", "run 1 * 0"} {
		m.refuses("P19.2", line, api.ErrInputs)
	}
	m.says("P19.2", "show", "power on slots none picked auto runs none mode dark ticks 0 alarms 0 clock 2000-01-01 00:00:00")
	m.says("P19.2", "run 65535*0 FFFFFFFFFFFFFFFF", "0-65535 * -")
	m.says("P19.2", "run 0", "65536 * -")
	m.says("P19.2", "run 1*a\t\t2*b", "65537-65539 * -")
	m.says("P19.2", "show", "power on slots none picked auto runs none mode dark ticks 65540 alarms 0 clock 2000-01-01 18:12:20")
	line := "run" + strings.Repeat(" 0", 32766)
	m.says("P19.2", line, "65540-98305 * -")
}

// The clock: it is set with the power on and off, goes on with the ticks alone, and stays at its last second.
func TestClock(t *testing.T) {
	m := stand(t, "clock 2026-11-14 07:30")
	m.says("P19.2", "show", "power off clock 2026-11-14 07:30:00")
	m.says("P19.2", "flash 4 / power on / run 59*0 / power off / show", "power off clock 2026-11-14 07:30:59")
	m.says("P19.2", "power on / run 0 / show", "power on slots none picked auto runs none mode dark ticks 1 alarms 0 clock 2026-11-14 07:31:00")
	m.says("P19.2", "crash 0 0 / show", "power off clock 2026-11-14 07:31:00")
	m.says("P19.2", "power on / clock 2024-02-28 23:59 / run 60*0 / power off / show", "power off clock 2024-02-29 00:00:00")
	m.says("P19.2", "power on / clock 2026-12-31 23:59 / run 61*0 / power off / show", "power off clock 2027-01-01 00:00:01")
	m.says("P19.2", "power on / clock 2399-12-31 23:59 / run 59*0 / power off / show", "power off clock 2399-12-31 23:59:59")
	m.says("P19.2", "power on / run 0 / power off / show", "power off clock 2399-12-31 23:59:59")
	m.says("P19.2", "power on / run 1000*0 / show", "power on slots none picked auto runs none mode dark ticks 1000 alarms 0 clock 2399-12-31 23:59:59")
	m.says("P19.2", "clock 2000-01-01 00:00 / power off / show", off)
}

// P19.2: a line of 65536 bytes is obeyed, one of one more is not, and is not the line ahead of a crash.
func TestLongLine(t *testing.T) {
	fill := func(line string, n int) string { return line + strings.Repeat(" ", n-len(line)) }
	m := stand(t, fill("flash 8", 65536)+" / "+fill("power on #", 65536))
	m.does("put 1 / {quick} / . / put 2 / {quick} / . / pick 1 / run 3*0")
	state := m.does("show")
	for _, line := range []string{"", "pick 2", "hello", "#", "put 1", "crash 0 0", ".", "power off"} {
		m.refuses("P19.2", fill(line, 65537), api.ErrLong)
		m.refuses("P19.2", fill(line, 200000), api.ErrLong)
	}
	m.says("P19.2", "show", state)
	m.says("P19.2", fill("show", 65536), state)
	if got, e := m.Do(strings.Repeat("\n", 65536)); got != "" || e != api.OK {
		t.Errorf("P19.2: 65536 blanks: %q %d", got, e)
	}
	m.does("pick 2")
	m.refuses("P19.2", fill("show", 65537), api.ErrLong)
	m.says("P19.2", "crash 0 0 / power on / show", "power on slots 1,2 picked 1 runs none mode dark ticks 0 alarms 0 clock 2000-01-01 00:00:03")
}

// bytes: at most 65536 digits, of which no line of at most 65536 bytes has more than 65530.
func TestManyBytes(t *testing.T) {
	m := stand(t, "flash 8 / power on")
	m.says("P19.2", "bytes "+strings.Repeat("7e", 32765), "-")
	m.refuses("P19.2", "bytes "+strings.Repeat("7e", 32766), api.ErrLong)
	m.refuses("P19.2", "bytes "+strings.Repeat("7e", 32768), api.ErrLong)
	m.refuses("P19.2", "bytes "+strings.Repeat("7e", 32769), api.ErrLong)
	m.refuses("P19.2", "bytes "+strings.Repeat("7", 65529), api.ErrArg)
}

// show tells each mode, and what is picked, held and running.
func TestShow(t *testing.T) {
	m := stand(t, "flash 16 / power on / put 2 / {pair} / . / put 0 / {pair} / . / put 7 / {pair} / .")
	show := func(what, want string) {
		t.Helper()
		m.says("P19.2", "show", "power on slots 0,2,7 "+what+" clock "+want)
	}
	show("picked auto runs none mode dark ticks 0 alarms 0", "2000-01-01 00:00:00")
	m.does("pick 7")
	show("picked 7 runs none mode dark ticks 0 alarms 0", "2000-01-01 00:00:00")
	m.says("P19.2", "run 6*0", "0-2 rr - / 3 lr - / 4-5 gr 0")
	show("picked 7 runs 7 mode run ticks 6 alarms 0", "2000-01-01 00:00:06")
	m.says("P19.2", "pick 2 / run 2*0", "6-7 gr -")
	show("picked 2 runs 7 mode clear ticks 8 alarms 0", "2000-01-01 00:00:08")
	m.says("P19.2", "pick auto / stick 1 a / run 2*0", "8 rr - / 9 .. -")
	show("picked auto runs none mode tripped ticks 10 alarms 1", "2000-01-01 00:00:10")
	m.says("P19.2", "reset / run 0", "10 * -")
	show("picked auto runs none mode dark ticks 11 alarms 1", "2000-01-01 00:00:11")
	m.says("P19.2", "pick 0 / run 1 / log", "3 8 1 -1 / 2 0 1 -1")
	m.says("P19.2", "power off / power on / log", "none")
	show("picked 0 runs none mode dark ticks 0 alarms 0", "2000-01-01 00:00:12")
	m.says("P19.2", "power off / show", "power off clock 2000-01-01 00:00:12")
}

// Do's answer with an error is driver.Report of it, with its place, and its Code.
func TestReports(t *testing.T) {
	m := stand(t, "flash 8 / power on")
	for _, src := range []string{"", "plan p { }\n", "plan p {\n", "$\n", strings.Replace(small, "2", "200000000000", 1), strings.Replace(small, "side 5", "side 2", 1), strings.Replace(small, "push latch", "push lotch", 1)} {
		m.does(strings.TrimSuffix("put 3\n"+src, "\n"))
		_, f := driver.Compile(src)
		got, e := m.Do(".")
		if f.Code == api.OK || e != f.Code || got != driver.Report(f) {
			t.Errorf("P19.2: %.40q: %q %d, want %q", src, got, e, driver.Report(f))
		}
	}
	m.says("P19.2", "show", "power on slots none picked auto runs none mode dark ticks 0 alarms 0 clock 2000-01-01 00:00:00")
}
