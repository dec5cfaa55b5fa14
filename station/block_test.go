package station_test

import (
	"strings"
	"testing"

	"junction/api"
	"junction/driver"
	"junction/rom"
	"junction/timetable"
)

// block obeys a block's text line by line; the answer of its point.
func (m mast) block(first, text string) (string, api.Errno) {
	m.t.Helper()
	for line := range strings.SplitSeq(first+"\n"+strings.TrimSuffix(text, "\n"), "\n") {
		if got, e := m.Do(line); got != "" || e != api.OK {
			m.t.Fatalf("P19.2: %.60q in a block: %q %d", line, got, e)
		}
	}
	return m.Do(".")
}

// A block ends at a point, with a comment behind it or without; nothing else ends it, and nothing in it is obeyed.
func TestPoint(t *testing.T) {
	for _, end := range []string{".", " .", ".\t", "\r.\r", ". # so", ".#", ".#.", "\n.\n", ". # . ."} {
		m := stand(t, "flash 8 / power on / put 1 / {quick} / "+"#")
		if got, e := m.Do(end); got != "ok" || e != api.OK {
			t.Errorf("P19.2: the end %q: %q %d", end, got, e)
		}
		m.refuses("P19.2", ".", api.ErrScript)
	}
	for _, line := range []string{"", "#", "# .", "..", ". .", ".x", "x .", "show", "power off", "put 2", "crash 0 0", "hello", "flash x", "\x00.", ".\v"} {
		m := stand(t, "flash 8 / power on / put 8 / {table} / #")
		if got, e := m.Do(line); got != "" || e != api.OK {
			t.Errorf("P19.2: %q in a block: %q %d", line, got, e)
		}
		_, f := timetable.Parse(table + "#\n" + line + "\n")
		want := "ok"
		if f.Code != api.OK {
			want = driver.Report(f)
		}
		if got, e := m.Do("."); got != want || e != f.Code {
			t.Errorf("P19.2: %q in a block: its end: %q %d, want %q", line, got, e, want)
		}
		m.says("P19.2", "log", "none")
	}
}

// A block's text is its lines, each with a byte 10 behind it, as they are.
func TestBlockText(t *testing.T) {
	for _, text := range []string{table, "# first\n\n" + table + "\n\n# last\n", strings.ReplaceAll(table, "\n", "\r\n"), strings.ReplaceAll(table, " ", "\t"), "\t \n" + table} {
		m := stand(t, "flash 8 / power on")
		if got, e := m.block("put 8", text); got != "ok" || e != api.OK {
			t.Errorf("P19.2: %q: %q %d", text, got, e)
		}
		if got := held(t, m.Flash()).Held[8]; got != text {
			t.Errorf("P19.2: %q, want %q", got, text)
		}
	}
	// A byte 10 within a line is part of the text.
	m := stand(t, "flash 8 / power on / put 8")
	for _, line := range []string{table, "#\n.", "."} {
		m.Do(line)
	}
	if got, _ := m.Do("show"); got != "power on slots none picked auto runs none mode dark ticks 0 alarms 0 clock 2000-01-01 00:00:00" {
		t.Errorf("P19.2: %q", got)
	}
	m.does("put 8")
	for _, line := range []string{strings.TrimSuffix(table, "\n"), "#\n# .\n", "\t.\n"} {
		m.Do(line)
	}
	if got, want := held(t, m.Flash()).Held[8], table+"#\n# .\n\n"; got != want {
		t.Errorf("P19.2: %q, want %q", got, want)
	}
}

// An empty block.
func TestEmptyBlock(t *testing.T) {
	wants(t, "P19.2", "flash 8 / power on / put 1 / . / put 8 / . / hex 1 / . / hex 8 / . / hex 1 / :00000001FF / . / hex 8 / :00000001FF / .",
		"ok / ok / 1:1: tree: a token that cannot stand here / timetable: something is missing / 1:1: rom: cut off / 1:1: rom: cut off / rom: cut off / timetable: something is missing")
}

// padTo puts blank lines ahead of a text until it has so many bytes.
func padTo(text string, n int) string { return strings.Repeat("\n", n-len(text)) + text }

// P19.2: a block's text of 65536 bytes is taken, one of one more is not, a put's and a hex's alike.
func TestLongBlock(t *testing.T) {
	image := strings.Repeat("#\n", 10) + small
	records := hexOf(t, imageOf(t, small))
	for _, c := range []struct{ line, text string }{{"put 1", image}, {"put 8", table}} {
		m := stand(t, "flash 200 / power on")
		if got, e := m.block(c.line, padTo(c.text, 65536)); got != "ok" || e != api.OK {
			t.Errorf("P19.2: %s: 65536 bytes: %q %d", c.line, got, e)
		}
		was := held(t, m.Flash())
		for _, n := range []int{65537, 65538, 70000, 200000} {
			if got, e := m.block(c.line, padTo(c.text, n)); got != "lex: too long" || e != api.ErrLong {
				t.Errorf("P19.2: %s: %d bytes: %q %d", c.line, n, got, e)
			}
		}
		if !held(t, m.Flash()).equal(was) {
			t.Errorf("P19.2: %s: what is refused is kept", c.line)
		}
		if got, e := m.block(c.line, c.text); got != "ok" || e != api.OK {
			t.Errorf("P19.2: %s: a block behind one that is too long: %q %d", c.line, got, e)
		}
	}
	// Of hex records there are no blank lines: FromHex tells at once that the first is none.
	m := stand(t, "flash 200 / power on")
	if got, e := m.block("hex 1", padTo(records, 65536)); got != "1:1: rom: no hex records" || e != api.ErrHex {
		t.Errorf("P19.2: hex: 65536 bytes: %q %d", got, e)
	}
	if got, e := m.block("hex 1", padTo(records, 65537)); got != "lex: too long" || e != api.ErrLong {
		t.Errorf("P19.2: hex: 65537 bytes: %q %d", got, e)
	}
	// One line of the text that is too long by itself with its end.
	m.does("put 8")
	if got, e := m.Do("#" + strings.Repeat("x", 65535)); got != "" || e != api.OK {
		t.Errorf("P19.2: a line of 65536 bytes in a block: %q %d", got, e)
	}
	m.refuses("P19.2", ".", api.ErrLong)
}

// P19.2: a line of more than 65536 bytes is no part of the text, and the block goes on.
func TestLongLineInBlock(t *testing.T) {
	m := stand(t, "flash 8 / power on / put 8 / {table} / #")
	for _, line := range []string{strings.Repeat("x", 65537), "." + strings.Repeat(" ", 65536)} {
		m.refuses("P19.2", line, api.ErrLong)
	}
	m.says("P19.2", "# more / .", "ok")
	if got, want := held(t, m.Flash()).Held[8], table+"#\n# more\n"; got != want {
		t.Errorf("P19.2: %q, want %q", got, want)
	}
}

// A line that is refused begins no block.
func TestNoBlock(t *testing.T) {
	wants(t, "P19.2", "put 1 / show / flash 8 / power on / put 9 / log / hex 9 / log / put x / log / put 1 1 / log / put / log / .",
		"station: off / "+off+" / ok / ok / bank: no such slot / none / bank: no such slot / none / station: a wrong argument / none / station: no command / none / station: no command / none / station: no command")
}

// put: slots 0 to 7 take a plan, slot 8 a timetable; the faults are those of their readers.
func TestPut(t *testing.T) {
	for slot := range 9 {
		m := stand(t, "flash 8 / power on")
		line := "put " + string(rune('0'+slot))
		for _, text := range []string{quick, table, "x\n", "plan p {\n", "timetable a\nday b\nat 6:30 flash\n"} {
			want, f := driver.Compile(text)
			if slot == 8 {
				want = []byte(text)
				_, f = timetable.Parse(text)
			}
			got, e := m.block(line, text)
			if f.Code != api.OK && (got != driver.Report(f) || e != f.Code) || f.Code == api.OK && (got != "ok" || e != api.OK) {
				t.Errorf("P19.2: %s of %.20q: %q %d, want %q", line, text, got, e, driver.Report(f))
			}
			if f.Code == api.OK && held(t, m.Flash()).Held[slot] != string(want) {
				t.Errorf("P19.2: %s of %.20q is not held", line, text)
			}
		}
		if p := held(t, m.Flash()); len(p.Held) != 1 || p.Picked != -1 {
			t.Errorf("P19.2: %s: %v", line, p)
		}
	}
}

// hex: the bytes of records, which must be an image, or the text of a timetable.
func TestHex(t *testing.T) {
	image := imageOf(t, small)
	spoilt := append([]byte{}, image...)
	spoilt[20] ^= 1
	bad := append([]byte{}, image[:len(image)-4]...)
	bad[len(bad)-1] = api.InPick // in a leave section
	bad = append(bad, sumOf(bad)...)
	wide := imageOf(t, wide())
	for slot := range 9 {
		m := stand(t, "flash 16 / power on")
		line := "hex " + string(rune('0'+slot))
		for i, text := range []string{hexOf(t, image), hexOf(t, []byte(table)), strings.ToLower(hexOf(t, wide)), strings.ReplaceAll(hexOf(t, image), "\n", "\r\n"), "hello\n", ":00000001FF\n\n", hexOf(t, spoilt), hexOf(t, bad), hexOf(t, []byte("timetable\n")), small} {
			data, f := rom.FromHex(text)
			if f.Code == api.OK {
				f = faultOf(slot, data)
			}
			got, e := m.block(line, text)
			if f.Code != api.OK && (got != driver.Report(f) || e != f.Code) || f.Code == api.OK && (got != "ok" || e != api.OK) {
				t.Errorf("P19.2: %s of text %d: %q %d, want %q", line, i, got, e, driver.Report(f))
			}
			if f.Code == api.OK && held(t, m.Flash()).Held[slot] != string(data) {
				t.Errorf("P19.2: %s of text %d is not held", line, i)
			}
		}
	}
	m := stand(t, "flash 16 / power on")
	if got, e := m.block("hex 1", hexOf(t, spoilt)); e != api.ErrSum || !strings.HasSuffix(got, ": rom: a wrong sum") || !strings.HasPrefix(got, "0:") {
		t.Errorf("P19.2: an image with a wrong sum: %q %d", got, e)
	}
	if got, e := m.block("hex 1", hexOf(t, image)); e != api.OK {
		t.Errorf("P19.2: %q %d", got, e)
	}
	m.says("P19.2", "pick 1 / run 12*0", "0-7 rrr - / 8-9 lrr - / 10-11 grr 0")
}

// The errors of the bank come behind those of the text.
func TestBlockRoom(t *testing.T) {
	m := stand(t, "flash 4 / power on")
	long := "# " + strings.Repeat("x", 2000) + "\n" + table
	if got, e := m.block("put 8", long); got != "bank: no room" || e != api.ErrSpace {
		t.Errorf("P19.2: %q %d", got, e)
	}
	if got, e := m.block("put 8", long+"x\n"); e != api.ErrTableLine {
		t.Errorf("P19.2: %q %d", got, e)
	}
	if got, e := m.block("hex 8", hexOf(t, []byte(long))); got != "bank: no room" || e != api.ErrSpace {
		t.Errorf("P19.2: %q %d", got, e)
	}
	if got, e := m.block("put 8", table); got != "ok" || e != api.OK {
		t.Errorf("P19.2: %q %d", got, e)
	}
}
