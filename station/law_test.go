package station_test

import (
	"bytes"
	"fmt"
	"math/rand"
	"strings"
	"testing"

	"junction/api"
	"junction/driver"
	"junction/station"
	"junction/watch"
	"junction/wire"
)

// both obeys a line with a station and with the model, and holds them against each other.
func both(t *testing.T, m mast, second *model, line string) (string, api.Errno) {
	t.Helper()
	got, e := m.Do(line)
	want, e2 := second.do(line)
	if got != want || e != e2 {
		t.Fatalf("%.200q: %q %d, want %q %d", line, got, e, want, e2)
	}
	return got, e
}

// Scripts at random: the station answers what the model does, and its flash holds the same.
func TestModel(t *testing.T) {
	modes := map[string]int{}
	for seed := range 120 {
		r := rand.New(rand.NewSource(int64(seed)))
		w := newWriter(r, seed%3 > 0, choose(r, 0, 10, 4))
		m, second := stand(t, "show"), newModel()
		both(t, m, second, fmt.Sprint("flash ", choose(r, 4, 5, 8, 16)))
		for range 150 {
			for _, line := range w.lines() {
				answer, e := both(t, m, second, line)
				w.heard(t, line, answer, e)
			}
			for _, tick := range second.run {
				modes[tick.mode]++
			}
			if !bytes.Equal(m.Flash(), second.flash) {
				t.Fatalf("seed %d: the flash is another one", seed)
			}
		}
	}
	// All of it has been tried.
	for _, mode := range []string{"dark", "run", "clear", "tripped"} {
		if modes[mode] < 1000 {
			t.Errorf("%d ticks in mode %s", modes[mode], mode)
		}
	}
}

// watcher holds what is shown against W8: each plan is safe by its own tables from its tick 0 on, over its clearing too, and a change goes over an all red picture.
type watcher struct {
	trace  []string
	tables api.Tables
	plans  int
	clears int
}

func (w *watcher) end(t *testing.T) {
	t.Helper()
	if len(w.trace) == 0 {
		return
	}
	alarms, e := watch.Audit(w.tables, w.trace)
	if len(alarms) != 0 || e != api.OK {
		t.Fatalf("P19.5: %v %d of %v", alarms, e, w.trace)
	}
	w.trace = nil
}

func (w *watcher) see(t *testing.T, lamps string, tick modelTick) {
	t.Helper()
	if tick.cleared {
		if last := w.trace[len(w.trace)-1]; strings.Trim(last, "r") != "" {
			t.Fatalf("W8: cleared behind %q", last)
		}
		w.clears++
	}
	if tick.began || tick.cleared {
		w.end(t)
	}
	if tick.began {
		w.tables = tick.tables
		w.plans++
	}
	if tick.mode == "run" || tick.mode == "clear" {
		w.trace = append(w.trace, strings.TrimPrefix(lamps, "*"))
	} else if lamps != "*" {
		t.Fatalf("W8: %q is shown in mode %s", lamps, tick.mode)
	}
}

// P19.5 and W8: where no lamp is stuck no monitor ever trips, whatever is put, picked and cut, by hand, by the line or by the timetable.
func TestSafe(t *testing.T) {
	var w watcher
	for seed := range 80 {
		r := rand.New(rand.NewSource(int64(1000 + seed)))
		script := newWriter(r, false, choose(r, 0, 15))
		m, second := stand(t, "show"), newModel()
		both(t, m, second, "flash 16")
		for range 200 {
			for _, line := range script.lines() {
				if strings.HasPrefix(strings.TrimSpace(line), "stick") {
					continue
				}
				first := second.ticks
				answer, e := both(t, m, second, line)
				script.heard(t, line, answer, e)
				if second.bank == nil {
					w.end(t)
				}
				if len(second.run) > 0 {
					for i, s := range ticks(t, first, answer) {
						w.see(t, s.Lamps, second.run[i])
					}
				}
			}
			if len(second.alarms) > 0 || second.mode == "tripped" {
				t.Fatalf("P19.5: seed %d: %v", seed, second.alarms)
			}
		}
		w.end(t)
		if second.bank != nil {
			m.says("P19.5", "log", "none")
		}
	}
	if w.plans < 500 || w.clears < 200 {
		t.Errorf("%d plans, %d clearings", w.plans, w.clears)
	}
}

// P19.6: a plan that is put and picked shows just the entries of driver.Play of its source.
func TestPlay(t *testing.T) {
	r := rand.New(rand.NewSource(6))
	for i := range 150 {
		src := anyPlan(r)
		switch i {
		case 0:
			src = small
		case 1:
			src = bare
		case 2:
			src = wide()
		case 3:
			src = padTo(small, 65536)
		}
		slot := r.Intn(8)
		script := []string{fmt.Sprint("put ", slot), strings.TrimSuffix(src, "\n"), ".", fmt.Sprint("pick ", slot)}
		if r.Intn(2) == 0 {
			script = append(script, "put 8", strings.TrimSuffix(anyTable(r), "\n"), ".")
		}
		m := stand(t, "flash 80 / power on")
		for line := range strings.SplitSeq(strings.Join(script, "\n"), "\n") {
			if answer, e := m.Do(line); e != api.OK {
				t.Fatalf("P19.6: %.60q: %s", line, answer)
			}
		}
		var ins []uint64
		var shown []seen
		for range 8 {
			line := "run"
			first := len(ins)
			for range 1 + r.Intn(60) {
				bits := uint64(r.Intn(4)) & uint64(r.Intn(4))
				ins = append(ins, bits)
				line += fmt.Sprintf(" %x", bits)
			}
			shown = append(shown, ticks(t, first, m.does(line))...)
			m.does(choose(r, "show", "log", "put 8 / {table} / .", "clock 2026-11-14 00:02", "bytes -", "timeout", "free"))
		}
		entries, f := driver.Play(src, ins)
		if f.Code != api.OK {
			t.Fatal(driver.Report(f))
		}
		for k, entry := range entries {
			want := seen{entry.Heads, fmt.Sprint(entry.Stage)}
			if want.Lamps == "" {
				want.Lamps = "*"
			}
			if entry.Stage == -1 {
				want.Stage = "-"
			}
			if shown[k] != want {
				t.Fatalf("P19.6: tick %d: %v, want %v of\n%s", k, shown[k], want, src)
			}
		}
	}
}

// P19.8 and W7: whatever the line drops, doubles and spoils, what the control room has sent is done once, in order, and answered once.
func TestLossyLine(t *testing.T) {
	for seed := range 60 {
		r := rand.New(rand.NewSource(int64(8000 + seed)))
		w := newWriter(r, false, 0)
		m := stand(t, "flash 64 / power on / put 1 / {small} / . / put 2 / {quick} / .")
		// What should be answered, and be held in the end.
		second := newModel()
		for line := range strings.SplitSeq(expand("flash 64 / power on / put 1 / {small} / . / put 2 / {quick} / ."), "\n") {
			second.do(line)
		}
		room := wire.NewEnd()
		var want, got []string
		hear := func(out []byte) {
			room.Feed(out)
			for _, data := range room.Take() {
				msg, _ := wire.Unpack(data)
				got = append(got, told(msg))
			}
		}
		for range 40 {
			for _, msg := range w.messages() {
				data := packed(t, msg)
				if room.Waiting() < 500 && room.Send(data) == api.OK {
					want = append(want, told(second.answer(data)))
				}
			}
			for range 1 + r.Intn(4) {
				if r.Intn(3) == 0 {
					room.Timeout()
				}
				line := "bytes " + toldBytes(lossy(r, room.Poll()))
				if r.Intn(8) == 0 {
					line = "timeout"
				}
				hear(lossy(r, readBytes(t, m.does(line))))
			}
		}
		for range 400 {
			room.Timeout()
			hear(readBytes(t, m.does("bytes "+toldBytes(room.Poll()))))
			hear(readBytes(t, m.does("timeout")))
		}
		if room.Waiting() != 0 || strings.Join(got, "\n") != strings.Join(want, "\n") {
			t.Fatalf("P19.8: seed %d: %d are waiting; %d answers, want %d", seed, room.Waiting(), len(got), len(want))
		}
		kept := plain{Held: map[int]string{}, Picked: second.bank.Picked()}
		for _, slot := range second.bank.Slots() {
			data, _ := second.bank.Get(slot)
			kept.Held[slot] = string(data)
		}
		if len(want) < 50 || !held(t, m.Flash()).equal(kept) {
			t.Errorf("P19.8: seed %d: behind %d messages another state", seed, len(want))
		}
	}
}

// lossy is what a line makes of frames: it lets some go, doubles some, and spoils some.
func lossy(r *rand.Rand, out []byte) []byte {
	var left []byte
	for _, inner := range bytes.Split(out, []byte{0x7E}) {
		if len(inner) == 0 {
			continue
		}
		frame := append(append([]byte{0x7E}, inner...), 0x7E)
		switch r.Intn(8) {
		case 0:
			continue
		case 1:
			left = append(left, frame...)
		case 2:
			frame[1+r.Intn(len(inner))] ^= 0x40
			if _, e := wire.Unframe(frame[1 : len(frame)-1]); e == api.OK || bytes.Contains(frame[1:len(frame)-1], []byte{0x7E}) {
				continue
			}
		case 3:
			left = append(left, 0x55, 0x7D, 0x7E)
		}
		left = append(left, frame...)
	}
	return left
}

// P19.9: a flash that is taken out of one station and put into another makes that one do what the first would do.
func TestOtherStation(t *testing.T) {
	for seed := range 60 {
		r := rand.New(rand.NewSource(int64(9000 + seed)))
		w := newWriter(r, true, 10)
		first := stand(t, "flash 16")
		for range 60 {
			for _, line := range w.lines() {
				answer, e := first.Do(line)
				w.heard(t, line, answer, e)
			}
		}
		first.Do("power off")
		second := mast{station.New(), t}
		if len(first.Flash()) == 0 {
			t.Fatal("no flash")
		}
		if e := second.Insert(first.Flash()); e != api.OK {
			t.Fatalf("P19.9: %d", e)
		}
		for _, line := range []string{w.clock(), "free", "stick 2 g"}[:2+r.Intn(2)] {
			first.does(line)
			second.does(line)
		}
		w.power = false
		for range 60 {
			for _, line := range w.lines() {
				answer, e := first.Do(line)
				w.heard(t, line, answer, e)
				if got, e2 := second.Do(line); got != answer || e2 != e {
					t.Fatalf("P19.9: seed %d: %.60q: %q %d, want %q %d", seed, line, got, e2, answer, e)
				}
			}
			if !bytes.Equal(first.Flash(), second.Flash()) {
				t.Fatalf("P19.9: seed %d: the flashes differ", seed)
			}
		}
	}
}

// G1: whatever lines a station is given, in whatever order, it answers.
func TestAnything(t *testing.T) {
	r := rand.New(rand.NewSource(1))
	words := []string{"flash", "power", "put", "hex", "drop", "pick", "clock", "run", "bytes", "timeout", "stick", "free", "reset", "log", "show", "crash", "on", "off", "auto", ".", "0", "1", "4", "8", "9", "63", "255", "999999999", "r", "g", "-", "7e", "#", "2026-11-14", "07:30", "x", "\xff", "2*0", "\n", ":00000001FF", "timetable", "t"}
	for range 300 {
		m := mast{station.New(), t}
		m.does("flash 4 / power on")
		for range 200 {
			var line []string
			for range r.Intn(5) {
				line = append(line, choose(r, words...))
			}
			text := strings.Join(line, choose(r, " ", "\t", ""))
			answer, e := m.Do(text)
			if e != api.OK && (answer == "" || answer == "ok") || strings.HasSuffix(answer, "\n") {
				t.Fatalf("G1: %q: %q %d", text, answer, e)
			}
		}
	}
}

// What a script answers is the same each time it is run.
func TestSame(t *testing.T) {
	r := rand.New(rand.NewSource(2))
	w := newWriter(r, true, 10)
	script := []string{"flash 8"}
	for range 100 {
		script = append(script, w.lines()...)
		w.power = r.Intn(20) > 0
	}
	first, _ := station.Run(strings.Join(script, "\n"))
	for range 3 {
		if again, _ := station.Run(strings.Join(script, "\n")); again != first {
			t.Fatal("G2: another answer")
		}
	}
}
