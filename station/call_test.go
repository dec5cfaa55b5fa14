package station_test

import (
	"bytes"
	"strings"
	"testing"

	"junction/api"
	"junction/driver"
	"junction/station"
)

const off = "power off clock 2000-01-01 00:00:00"

// P19.1: a new station, and one that New did not make, are ahead of their first line.
func TestNew(t *testing.T) {
	for _, s := range []*station.Station{station.New(), {}} {
		m := mast{s, t}
		if b := m.Flash(); len(b) != 0 {
			t.Errorf("P19.1: a flash of %d bytes", len(b))
		}
		m.says("P19.1", "show", off)
		m.refuses("P19.1", "power on", api.ErrOff)
		m.refuses("P19.1", "power off", api.ErrOff)
		m.refuses("P19.1", ".", api.ErrScript)
		m.says("P19.1", "show", off)
		m.says("P19.1", "flash 4 / power on / put 0 / {quick} / . / pick 0 / run 3*0", "0 r - / 1-2 g 0")
		m.says("P19.1", "show", "power on slots 0 picked 0 runs 0 mode run ticks 3 alarms 0 clock 2000-01-01 00:00:03")
		m.says("P19.1", "timeout", "-")
	}
}

// P19.1 and G2: two stations know nothing of each other.
func TestApart(t *testing.T) {
	first, second := stand(t, "flash 8 / power on"), stand(t, "flash 4 / power on")
	first.does("put 1 / {small} / . / pick 1 / stick 0 g / clock 2026-11-14 07:30 / put 2 / plan")
	second.says("G2", "show", "power on slots none picked auto runs none mode dark ticks 0 alarms 0 clock 2000-01-01 00:00:00")
	second.says("G2", "put 1 / {quick} / . / pick 1 / run 2*0", "0 r - / 1 g 0")
	first.does("x")
	if got, e := first.Do("."); e != api.ErrToken {
		t.Errorf("G2: the first one's block: %q %d", got, e)
	}
	first.says("G2", "run 2*0", "0 rrr - / 1 ... -")
	if len(first.Flash()) != 8192 || len(second.Flash()) != 4096 {
		t.Errorf("G2: flashes of %d and %d bytes", len(first.Flash()), len(second.Flash()))
	}
}

// P19.3: the flash's bytes, in new memory.
func TestFlash(t *testing.T) {
	m := stand(t, "flash 4")
	blank := bytes.Repeat([]byte{255}, 4096)
	if !bytes.Equal(m.Flash(), blank) {
		t.Errorf("P19.3: a blank flash")
	}
	m.does("power on")
	header := m.Flash()
	if bytes.Equal(header, blank) || !bytes.HasPrefix(header, []byte("JBNK")) {
		t.Errorf("P19.3: a flash that is open: %x", header[:20])
	}
	m.does("put 0 / {quick} / . / show")
	full := m.Flash()
	want := plain{Held: map[int]string{0: string(imageOf(t, quick))}, Picked: -1}
	if got := held(t, full); !got.equal(want) {
		t.Errorf("P19.3: %v, want %v", got, want)
	}
	again := m.Flash()
	clear(again)
	_ = append(again[:10], full...)
	if !bytes.Equal(m.Flash(), full) {
		t.Errorf("P19.3: what Flash answers is the station's own")
	}
	m.says("P19.3", "pick 0 / run 2*0", "0 r - / 1 g 0")
	m.does("power off")
	if got := held(t, m.Flash()); got.Picked != 0 {
		t.Errorf("P19.3: with the power off %v", got)
	}
	m.does("flash 5")
	if !bytes.Equal(m.Flash(), bytes.Repeat([]byte{255}, 5120)) {
		t.Errorf("P19.3: another flash")
	}
	m.refuses("P19.3", "flash 3", api.ErrDisk)
	if len(m.Flash()) != 5120 {
		t.Errorf("P19.3: a flash that is refused")
	}
}

// P19.3: Insert's errors, in their order, and what it does.
func TestInsert(t *testing.T) {
	good := flashWith(t, 4, map[int]string{0: string(imageOf(t, quick))}, 0)
	m := stand(t, "show")
	for _, n := range []int{0, 1, 1023, 1024, 3072, 4095, 4097, 5000, 4096*1024 + 1, 4097 * 1024} {
		if e := m.Insert(make([]byte, n)); e != api.ErrDisk || len(m.Flash()) != 0 {
			t.Errorf("P19.3: %d bytes: %d", n, e)
		}
	}
	if e := m.Insert(nil); e != api.ErrDisk {
		t.Errorf("P19.3: nil: %d", e)
	}
	for _, n := range []int{4, 5, 4096} {
		if e := m.Insert(make([]byte, n*1024)); e != api.OK || !bytes.Equal(m.Flash(), make([]byte, n*1024)) {
			t.Errorf("P19.3: %d sectors: %d", n, e)
		}
	}
	given := bytes.Clone(good)
	if e := m.Insert(given); e != api.OK || !bytes.Equal(given, good) {
		t.Errorf("P19.3: %d", e)
	}
	clear(given)
	if !bytes.Equal(m.Flash(), good) {
		t.Errorf("P19.3: what is handed in is kept")
	}
	m.does("power on")
	for _, b := range [][]byte{nil, good, make([]byte, 5)} {
		if e := m.Insert(b); e != api.ErrArg || !bytes.Equal(m.Flash(), good) {
			t.Errorf("P19.3: %d bytes with the power on: %d", len(b), e)
		}
	}
	m.says("P19.3", "run 2*0", "0 r - / 1 g 0")
	m.does("power off")
	if e := m.Insert(good[:5]); e != api.ErrDisk || !bytes.Equal(m.Flash(), good) {
		t.Errorf("P19.3: what is refused changes nothing: %d", e)
	}
}

// P19.3: a flash that Insert has put in is as the power finds it: one that is worn, and one of any bytes.
func TestInsertAny(t *testing.T) {
	m := stand(t, "show")
	for x := range 256 {
		flash := bytes.Repeat([]byte{byte(x)}, 4096)
		if e := m.Insert(flash); e != api.OK {
			t.Fatalf("P19.3: bytes %d: %d", x, e)
		}
		m.says("P19.3", "power on / run 0 / show", strings.Replace("power on slots none picked auto runs none mode dark ticks 1 alarms 0 clock 2000-01-01 @", "@", stamp(x+1), 1))
		m.does("power off")
	}
	// A header of the last generation, with something behind the log's end.
	worn := bytes.Repeat([]byte{255}, 4096)
	copy(worn, []byte{0x4A, 0x42, 0x4E, 0x4B, 0xFE, 0xFF, 0xFF, 0xFF, 0, 8, 0, 0})
	copy(worn[12:], sumOf(worn[:12]))
	worn[20] = 0
	if e := m.Insert(worn); e != api.OK {
		t.Fatalf("P19.3: %d", e)
	}
	m.refuses("P19.3", "power on", api.ErrWorn)
	m.refuses("P19.3", "power off", api.ErrOff)
	if !bytes.Equal(m.Flash(), worn) {
		t.Errorf("P19.3: a flash that cannot be opened has changed")
	}
}

// P19.4: Run's answers, each with a byte 10 behind it.
func TestRun(t *testing.T) {
	for _, c := range []struct{ script, want string }{
		{"", ""}, {"\n", ""}, {"\n\n # so \n\t\r\n", ""},
		{"show", off + "\n"}, {"show\n", off + "\n"}, {"\nshow\n\nshow", off + "\n" + off + "\n"},
		{"hello\nflash 4\nhello", "station: no command\nok\nstation: no command\n"},
		{"flash 4\npower on\nput 1", "ok\nok\n"},
		{"flash 4\r\npower\ton \r\nrun 1 2\r\nlog", "ok\nok\n0-1 * -\nnone\n"},
	} {
		got, f := station.Run(c.script)
		if got != c.want || f != (api.Fault{}) {
			t.Errorf("P19.4: %q: %q %v, want %q", c.script, got, f, c.want)
		}
	}
}

// P19.4: a script of 1048576 bytes is obeyed, one of one more is not.
func TestRunLong(t *testing.T) {
	lines := "show\n" + strings.Repeat("# nothing\n", 104856)
	script := lines + strings.Repeat("\n", 1048576-len(lines)-4) + "show"
	if got, f := station.Run(script); got != off+"\n"+off+"\n" || f != (api.Fault{}) {
		t.Errorf("P19.4: %d bytes: %q %v", len(script), got, f)
	}
	if got, f := station.Run(script + "\n"); got != "" || f != (api.Fault{Code: api.ErrLong}) {
		t.Errorf("P19.4: %d bytes: %q %v", len(script)+1, got, f)
	}
	got, f := station.Run(strings.Repeat(" ", 1048576))
	if report := driver.Report(api.Fault{Code: api.ErrLong}); got != report+"\n" || f != (api.Fault{}) {
		t.Errorf("P19.4: one line: %q %v", got, f)
	}
}

// P19.4: Run is Do of each line of a new station.
func TestRunIsDo(t *testing.T) {
	script := expand("power on / flash 8 / power on / put 2 / {small} / . / put 3 / plan / . / pick 2 / run 30*0 2 20*0 / stick 63 r / crash 5 5 / show / hex 9 / power on / bytes 7e / log / show / nothing")
	var want strings.Builder
	s := station.New()
	for line := range strings.SplitSeq(script, "\n") {
		if answer, _ := s.Do(line); answer != "" {
			want.WriteString(answer + "\n")
		}
	}
	for range 2 {
		if got, f := station.Run(script); got != want.String() || f != (api.Fault{}) {
			t.Errorf("P19.4: %q %v, want %q", got, f, want.String())
		}
	}
}
