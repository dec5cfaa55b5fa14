package station_test

import (
	"bytes"
	"fmt"
	"math/rand"
	"strings"
	"testing"

	"junction/api"
	"junction/bank"
	"junction/station"
	"junction/wire"
)

// stood is a station with that flash, its power on.
func stood(t *testing.T, flash []byte) mast {
	t.Helper()
	m := mast{station.New(), t}
	if e := m.Insert(flash); e != api.OK {
		t.Fatalf("Insert: %d", e)
	}
	m.does("power on")
	return m
}

// stepsOf counts the steps of what a line does on a flash: the least N from which on a crash takes nothing back.
func stepsOf(t *testing.T, flash []byte, line string) int {
	t.Helper()
	m := stood(t, flash)
	m.does(line)
	behind := m.Flash()
	low, high := 0, 20000
	for low < high {
		n := (low + high) / 2
		m := stood(t, flash)
		m.does(fmt.Sprint(line, " / crash ", n, " 0"))
		if bytes.Equal(m.Flash(), behind) {
			high = n
		} else {
			low = n + 1
		}
	}
	return low
}

// checkCrash cuts a line behind n steps; behind the next power on all is as it was ahead of the line, or behind it, or between two of its messages.
func checkCrash(t *testing.T, flash []byte, line string, n int, torn byte, steps int, states []plain) {
	t.Helper()
	m := stood(t, flash)
	m.does(line)
	m.says("P19.7", fmt.Sprint("crash ", n, " ", torn), "ok")
	m.refuses("P19.7", "run 0", api.ErrOff)
	m.does("power on")
	got := held(t, m.Flash())
	if n >= steps && !got.equal(states[len(states)-1]) {
		t.Fatalf("P19.7: %s: crash %d %d behind all %d steps: %v", line, n, torn, steps, got)
	}
	for _, p := range states {
		if got.equal(p) {
			return
		}
	}
	t.Fatalf("P19.7: %s: crash %d %d of %d steps: %v, none of %v", line, n, torn, steps, got, states)
}

// checkCrashes cuts a line at many steps with some bits, at its first and last ones with more.
func checkCrashes(t *testing.T, flash []byte, line string, states ...plain) {
	t.Helper()
	m := stood(t, flash)
	ahead := held(t, m.Flash())
	m.does(line)
	behind := held(t, m.Flash())
	states = append(append([]plain{ahead}, states...), behind)
	steps := stepsOf(t, flash, line)
	if steps < 10 {
		t.Fatalf("P19.7: %s: %d steps", line, steps)
	}
	stride := 1 + steps/400
	for n := 0; n <= steps+2; n++ {
		if n%stride != 0 && n > 40 && n < steps-40 {
			continue
		}
		for _, torn := range []byte{0, 255, 1 << (n % 8), byte(n * 37)} {
			checkCrash(t, flash, line, n, torn, steps, states)
		}
	}
	checkCrash(t, flash, line, 999999999, 170, steps, states)
}

// P19.7: a crash behind each kind of line that does acts, appended to the log and moved.
func TestCrashes(t *testing.T) {
	image, other, text := string(imageOf(t, quick)), string(imageOf(t, bare)), table
	data := map[int]string{0: image, 3: other, 8: text}
	roomy := flashWith(t, 4, data, 0)
	free := flashWith(t, 4, data, -1)
	full := fullFlash(t, data, 0)
	fullFree := fullFlash(t, data, -1)
	records := strings.TrimSuffix(hexOf(t, []byte(other)), "\n")
	for _, c := range []struct {
		flash []byte
		line  string
	}{
		{roomy, "put 1 / {quick} / ."}, {roomy, "put 0 / {bare} / ."}, {roomy, "put 8 / # new\n{table} / ."}, {roomy, "hex 5\n" + records + " / ."},
		{roomy, "drop 3"}, {roomy, "drop 8"}, {roomy, "pick 3"}, {roomy, "pick auto"}, {free, "pick 0"}, {free, "drop 0"},
		{full, "put 1 / {quick} / ."}, {full, "put 8 / # new\n{table} / ."}, {full, "hex 0\n" + records + " / ."}, {full, "drop 3"}, {full, "pick 3"}, {full, "pick auto"}, {fullFree, "pick 3"},
	} {
		checkCrashes(t, c.flash, c.line)
	}
}

// fullFlash is one whose log has no room left, so that the next change is moved.
func fullFlash(t *testing.T, data map[int]string, picked int) []byte {
	t.Helper()
	flash, _ := bank.Blank(4)
	b, _ := bank.Open(flash)
	room := 2048 - 16
	for slot, text := range data {
		b.Put(slot, []byte(text))
		room -= 11 + len(text)
	}
	if b.Pick(picked); picked >= 0 {
		room -= 11
	}
	b.Put(7, make([]byte, room-22))
	b.Drop(7)
	acts := b.Acts()
	flash, _ = bank.Play(flash, acts, bank.Steps(acts), 0)
	m := stood(t, flash)
	m.does("pick 3")
	if now := m.Flash(); now[2047] != 0 || !bytes.HasPrefix(now[2048:], []byte("JBNK")) {
		t.Fatal("the log is not full")
	}
	return flash
}

// P19.7: a crash behind the power on that opens a flash for the first time, or mends one.
func TestCrashPowerOn(t *testing.T) {
	check := func(flash []byte, steps int) {
		t.Helper()
		was := held(t, flash)
		for n := 0; n <= steps+2; n++ {
			for _, torn := range []byte{0, 255, byte(n * 37)} {
				m := stood(t, flash)
				m.does(fmt.Sprint("crash ", n, " ", torn, " / power on"))
				if got := held(t, m.Flash()); !got.equal(was) {
					t.Fatalf("P19.7: power on, crash %d %d: %v, want %v", n, torn, got, was)
				}
			}
		}
	}
	blank, _ := bank.Blank(4)
	check(blank, 16)
	// Half a record behind the log's end is mended by a move.
	m := stood(t, flashWith(t, 4, map[int]string{0: string(imageOf(t, quick)), 3: string(imageOf(t, bare))}, 3))
	m.does("pick 0 / crash 5 0")
	check(m.Flash(), 500)
}

// A crash behind a line that does no acts takes nothing back, whatever N and B; nor one behind a line that is refused.
func TestCrashNothing(t *testing.T) {
	flash := flashWith(t, 8, map[int]string{0: string(imageOf(t, quick)), 3: string(imageOf(t, bare))}, 0)
	for _, script := range []string{"show", "log", "run 3*0", "timeout", "bytes -", "bytes 7e00", "stick 0 g", "free", "clock 2026-11-14 07:30", "stick 0 g / run 0 / reset", "put 1 / .", "hex 1 / x / .", "put 9", "drop 9", "drop 1", "drop 3 / pick 3 / show", "pick 9", "pick 1", "run x"} {
		for _, crash := range []string{"crash 0 0", "crash 0 255", "crash 5 170", "crash 999999999 255"} {
			m := stood(t, flash)
			m.does("pick 3 / show")
			for line := range strings.SplitSeq(strings.ReplaceAll(script, " / ", "\n"), "\n") {
				m.Do(line)
			}
			now := m.Flash()
			m.does(crash)
			if !bytes.Equal(m.Flash(), now) {
				t.Errorf("P19.7: %s behind %q has changed the flash", crash, script)
			}
		}
	}
}

// The line ahead is the last one that was not refused with ErrScript or ErrArg: those, lines without words and lines that are too long are passed over.
func TestLineAhead(t *testing.T) {
	flash := flashWith(t, 8, map[int]string{0: string(imageOf(t, quick)), 3: string(imageOf(t, bare))}, 0)
	for _, c := range []struct {
		line string
		back bool // whether the pick ahead of it is taken back
	}{
		{"", true}, {"# so", true}, {"\n", true}, {"hello", true}, {".", true}, {"show now", true}, {"pick", true}, {"pick x", true}, {"flash 8", true}, {"power on", true}, {"reset", true}, {"crash 0 256", true}, {"crash 0", true}, {"put x", true}, {"bytes 7", true}, {"clock 2026-02-30 00:00", true}, {strings.Repeat("x", 65537), true}, {strings.Repeat(" ", 65537), true},
		{"show", false}, {"log", false}, {"free", false}, {"pick 9", false}, {"drop 9", false}, {"drop 3", false}, {"put 9", false}, {"hex 9", false}, {"run x", false}, {"run 0", false}, {"bytes -", false}, {"timeout", false}, {"pick 3", false}, {"stick 5 r", false}, {"clock 2026-02-28 00:00", false}, {"put 1 / .", false}, {"put 1 / {quick} / .", false},
	} {
		m := stood(t, flash)
		m.does("pick 3")
		for line := range strings.SplitSeq(expand(c.line), "\n") {
			m.Do(line)
		}
		m.does("crash 0 0 / power on")
		got := held(t, m.Flash())
		if want := map[bool]int{true: 0, false: 3}[c.back]; got.Picked != want || len(got.Held) != 2 {
			t.Errorf("P19.7: %.40q: slot %d is picked, want %d", c.line, got.Picked, want)
		}
	}
}

// A block with its put and its point is one line, whatever its lines look like.
func TestCrashBlock(t *testing.T) {
	flash := flashWith(t, 8, map[int]string{0: string(imageOf(t, quick))}, 0)
	m := stood(t, flash)
	m.does("put 1 / # pick 0 / # show / {quick} / # / . / # not this / crash 0 0 / power on")
	if got := held(t, m.Flash()); len(got.Held) != 1 {
		t.Errorf("P19.7: %v", got)
	}
	// Nothing of a block is there ahead of its point.
	m.does("put 1 / {quick} / #")
	if got := held(t, m.Flash()); len(got.Held) != 1 {
		t.Errorf("P19.7: %v", got)
	}
	m.says("P19.7", ". / crash 999999999 0 / power on / show", "power on slots 0,1 picked 0 runs none mode dark ticks 0 alarms 0 clock 2000-01-01 00:00:00")
}

// P19.7: a line of bytes that brings several messages leaves what is behind one of them, in their order.
func TestCrashBytes(t *testing.T) {
	image, other := string(imageOf(t, quick)), string(imageOf(t, bare))
	data := map[int]string{0: image, 3: other}
	for _, flash := range [][]byte{flashWith(t, 4, data, 0), fullFlash(t, data, 0)} {
		room := wire.NewEnd()
		for _, m := range []api.Msg{pickOf(3), dropOf(0), beginOf(8, []byte(table)), pieceOf(0, table), finish, pickOf(255)} {
			room.Send(packed(t, m))
		}
		line := "bytes " + toldBytes(room.Poll())
		checkCrashes(t, flash, line,
			plain{map[int]string{0: image, 3: other}, 3},
			plain{map[int]string{3: other}, 3},
			plain{map[int]string{3: other, 8: table}, 3},
		)
	}
}

// P19.7: crashes behind one another, at random: what is acknowledged and not cut stays.
func TestCrashAgain(t *testing.T) {
	r := rand.New(rand.NewSource(19))
	lines := []string{"put 0 / {quick} / .", "put 1 / {bare} / .", "put 1 / {quick} / .", "put 2 / {pair} / .", "drop 0", "drop 1", "drop 2", "pick 0", "pick 1", "pick 2", "pick auto"}
	for range 30 {
		m := stand(t, "flash 4 / power on")
		for range 60 {
			ahead := held(t, m.Flash())
			for line := range strings.SplitSeq(expand(choose(r, lines...)), "\n") {
				m.Do(line)
			}
			behind := held(t, m.Flash())
			if r.Intn(3) > 0 {
				continue
			}
			m.does(fmt.Sprint("crash ", r.Intn(choose(r, 20, 200, 3000)), " ", r.Intn(256)))
			for r.Intn(2) == 0 {
				m.does(fmt.Sprint("power on / crash ", r.Intn(choose(r, 20, 3000)), " ", r.Intn(256)))
			}
			m.does("power on")
			if got := held(t, m.Flash()); !got.equal(ahead) && !got.equal(behind) {
				t.Fatalf("P19.7: %v, neither %v nor %v", got, ahead, behind)
			}
		}
	}
}
