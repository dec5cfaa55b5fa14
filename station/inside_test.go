package station

import (
	"bytes"
	"maps"
	"slices"
	"strconv"
	"strings"
	"testing"

	"junction/api"
)

// Chapter 19's Ways: the commands stand in a map by their words.
func TestCommands(t *testing.T) {
	words := slices.Sorted(maps.Keys(New().commands()))
	want := []string{"bytes", "clock", "crash", "drop", "flash", "free", "hex", "log", "pick", "power", "put", "reset", "run", "show", "stick", "timeout"}
	if !slices.Equal(words, want) {
		t.Errorf("%v, want %v", words, want)
	}
}

// At most 65536 digits are bytes. (No line that is short enough has so many.)
func TestDigits(t *testing.T) {
	b, ok := bytesOf(strings.Repeat("7E", 32768))
	if !ok || !bytes.Equal(b, bytes.Repeat([]byte{0x7E}, 32768)) {
		t.Errorf("65536 digits: %v, %d bytes", ok, len(b))
	}
	if b, ok := bytesOf(strings.Repeat("7E", 32769)); ok || len(b) != 0 {
		t.Errorf("65538 digits: %v, %d bytes", ok, len(b))
	}
	if b, ok := bytesOf("-"); !ok || len(b) != 0 {
		t.Errorf("no digits: %v, %d bytes", ok, len(b))
	}
	for hi := range 256 {
		for lo := range 256 {
			word := string([]byte{byte(hi), byte(lo)})
			want, err := strconv.ParseUint(word, 16, 8)
			b, ok := bytesOf(word)
			if ok != (err == nil) || ok && (len(b) != 1 || uint64(b[0]) != want) {
				t.Fatalf("%q: %x %v", word, b, ok)
			}
		}
	}
}

// MsTell tells the ticks and the number of alarms modulo 2 to the 32.
func TestTell(t *testing.T) {
	p := powered{ticks: 1<<32 + 5, alarms: make([]api.Alarm, 3)}
	if m := p.tell(); m.Kind != api.MsTell || m.Slot != 255 || m.Num != 5 || m.Sum != 3 {
		t.Errorf("%+v", m)
	}
}

// A block keeps no more than it may have in the end.
func TestBlockKeeps(t *testing.T) {
	b := block{read: compiled}
	line := strings.Repeat("x", 65536)
	for range 3 {
		b.add(line)
		if cap(b.text) > 2*api.MaxSource {
			t.Errorf("%d bytes are kept", cap(b.text))
		}
	}
	if _, _, f := b.shut(); f.Code != api.ErrLong || b.isOpen() || len(b.text) != 0 {
		t.Errorf("%v, %v", f, b.isOpen())
	}
}

// What runs has been loaded once, and is not loaded again.
func TestLoadedOnce(t *testing.T) {
	s := New()
	for _, line := range []string{"flash 8", "power on", "put 1", "plan p {", "group g vehicle min 5 amber 3;", "start a;", "stage a { green g; next b when elapsed >= 5; }", "stage b { green; next a when true; }", "}", ".", "pick 1", "run 3*0"} {
		if answer, e := s.Do(line); e != api.OK {
			t.Fatalf("%s: %s", line, answer)
		}
	}
	was := s.plan
	s.Do("run 200*0")
	if s.plan != was || s.planOf(1) != was || s.planOf(2) != nil || s.planOf(8) != nil || s.planOf(-1) != nil {
		t.Errorf("%p, %p", s.plan, was)
	}
	s.Do("pick auto")
	s.Do("run 20*0")
	if s.plan != nil || s.machine != nil || s.monitor != nil || len(s.heads.Aspect) != 0 {
		t.Errorf("what does not run any more is kept")
	}
	s.Do("power off")
	if s.bank != nil || s.end != nil {
		t.Errorf("what is lost with the power is kept")
	}
}

// No more acts are kept beside the flash than would fill it, and one line's.
func TestChipKeeps(t *testing.T) {
	s := New()
	for _, line := range []string{"flash 4", "power on", "put 8", "timetable t", "day a", "at 00:00 slot 1", "week a a a a a a a", "."} {
		if answer, e := s.Do(line); e != api.OK {
			t.Fatalf("%s: %s", line, answer)
		}
	}
	text, _ := s.bank.Get(8)
	most := len(text) + 11 + 3000
	for range 500 {
		for _, line := range append(append([]string{"put 8"}, strings.Split(strings.TrimSuffix(string(text), "\n"), "\n")...), ".") {
			if answer, e := s.Do(line); e != api.OK {
				t.Fatalf("%s: %s", line, answer)
			}
		}
		if s.steps > 4096+most || len(s.acts) > 4096/11+10 {
			t.Fatalf("%d steps, %d acts", s.steps, len(s.acts))
		}
	}
}
