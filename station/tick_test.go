package station_test

import (
	"fmt"
	"strings"
	"testing"

	"junction/api"
	"junction/station"
)

const three = "flash 16 / power on / put 1 / {small} / . / put 2 / {quick} / . / put 7 / {pair} / ."

// Nothing is wanted where nothing is picked and there is no timetable, and where what is wanted is no plan.
func TestNothingWanted(t *testing.T) {
	image := string(imageOf(t, quick))
	spoilt := image[:len(image)-1] + "x"
	all := "timetable t\nday a\nat 00:00 slot %d\nweek a a a a a a a\n"
	for _, c := range []struct {
		what   string
		data   map[int]string
		picked int
		run    string
	}{
		{"an empty flash", nil, -1, "0-2 * -"},
		{"no timetable", map[int]string{0: image}, -1, "0-2 * -"},
		{"a picked plan", map[int]string{0: image}, 0, "0 r - / 1-2 g 0"},
		{"bytes that load refuses", map[int]string{0: spoilt}, 0, "0-2 * -"},
		{"no image at all", map[int]string{0: "x"}, 0, "0-2 * -"},
		{"the timetable's slot picked", map[int]string{0: image, 8: fmt.Sprintf(all, 0)}, 8, "0-2 * -"},
		{"an image in slot 8", map[int]string{8: image}, 8, "0-2 * -"},
		{"an image in slot 8, not picked", map[int]string{8: image}, -1, "0-2 * -"},
		{"a timetable", map[int]string{3: image, 8: fmt.Sprintf(all, 3)}, -1, "0 r - / 1-2 g 0"},
		{"a timetable, and another slot", map[int]string{3: image, 8: fmt.Sprintf(all, 2)}, -1, "0-2 * -"},
		{"a timetable, and bytes that load refuses", map[int]string{3: spoilt, 8: fmt.Sprintf(all, 3)}, -1, "0-2 * -"},
		{"a timetable of flash", map[int]string{0: image, 8: strings.Replace(all, "slot %d", "flash", 1)}, -1, "0-2 * -"},
		{"a text that is no timetable", map[int]string{3: image, 8: fmt.Sprintf(all, 3) + "x"}, -1, "0-2 * -"},
		{"a picked plan and a timetable", map[int]string{3: string(imageOf(t, bare)), 0: image, 8: fmt.Sprintf(all, 3)}, 0, "0 r - / 1-2 g 0"},
		{"a picked slot that load refuses and a timetable", map[int]string{3: spoilt, 0: image, 8: fmt.Sprintf(all, 0)}, 3, "0-2 * -"},
	} {
		m := mast{station.New(), t}
		if e := m.Insert(flashWith(t, 8, c.data, c.picked)); e != api.OK {
			t.Fatal(e)
		}
		m.says(c.what, "power on / run 3*0", c.run)
		mode := "run"
		if strings.Contains(c.run, "*") {
			mode = "dark"
		}
		if got := m.does("show"); !strings.Contains(got, " mode "+mode+" ticks 3 ") {
			t.Errorf("%s: %q", c.what, got)
		}
	}
}

// A plan without groups has no letters, and its stages all the same.
func TestBare(t *testing.T) {
	m := stand(t, "flash 8 / power on / put 1 / {bare} / . / pick 1")
	m.says("A tick", "run 9*0", "0 * - / 1-3 * 0 / 4-5 * 1 / 6-8 * 0")
	m.says("A tick", "stick 0 g / stick 63 r / run 0", "9 * 1")
	m.says("A tick", "pick auto / run 0 / show", "power on slots 1 picked auto runs none mode dark ticks 11 alarms 0 clock 2000-01-01 00:00:11")
}

// The bits are those of the plan's detectors.
func TestBits(t *testing.T) {
	m := stand(t, "flash 8 / power on / put 1 / {small} / . / pick 1")
	m.says("A tick", "run 3*0 2 20*0", "0-7 rrr - / 8-9 lrr - / 10-16 grr 0 / 17-19 arr - / 20 rrr - / 21 rrg - / 22-23 rgg 2")
	n := stand(t, "flash 8 / power on / put 1 / {small} / . / pick 1")
	n.says("A tick", "run 3*0 FFFFFFFFFFFFFFFE 20*f0", "0-7 rrr - / 8-9 lrr - / 10-16 grr 0 / 17-19 arr - / 20 rrr - / 21 rrg - / 22-23 rgg 2")
}

// The same bytes put again: the plan goes on; by hand, as hex, and in the middle of a move.
func TestSameBytes(t *testing.T) {
	records := strings.TrimSuffix(hexOf(t, imageOf(t, small)), "\n")
	m := stand(t, three+" / pick 1 / run 12*0")
	m.says("A tick", "put 1 / {small} / . / run 0", "12 grr 0")
	m.says("A tick", "hex 1\n"+records+" / . / run 19*0", "13-30 grr 0 / 31 arr -")
	m.says("A tick", "put 1 / # the same\n{small} / . / run 4*0", "32-33 arr - / 34-35 rrr -")
	m.says("A tick", "pick 2 / pick 1 / run 0", "36 rgr 1")
	m.says("A tick", "put 2 / {bare} / . / drop 7 / run 0", "37 rgr 1")
}

// Other bytes put while the plan runs: its greens end as they may, and the new one begins behind an all red picture.
func TestOtherBytes(t *testing.T) {
	m := stand(t, three+" / pick 1 / run 12*0")
	m.says("A tick", "put 1 / {quick} / . / run 3*0 / show", "power on slots 1,2,7 picked 1 runs 1 mode clear ticks 15 alarms 0 clock 2000-01-01 00:00:15")
	m.says("A tick", "run 10*0", "15-16 grr - / 17-19 arr - / 20 rrr - / 21 r - / 22-24 g 0")
	// Put back while the other one still runs.
	m.says("A tick", "put 1 / {small} / . / run 7*0", "25-26 g - / 27-29 a - / 30 r - / 31 rrr -")
	m.says("A tick", "run 11*0", "32-38 rrr - / 39-40 lrr - / 41-42 grr 0")
	// Put back while it is left: it is left all the same, and begins anew.
	m.says("A tick", "put 1 / {quick} / . / run 2*0", "43-44 grr -")
	m.says("A tick", "put 1 / {small} / . / run 10*0", "45-47 grr - / 48-50 arr - / 51-54 rrr -")
}

// A pick of another slot while a plan runs, with the same bytes in it too.
func TestOtherSlot(t *testing.T) {
	m := stand(t, three+" / put 3 / {quick} / . / pick 2 / run 3*0")
	m.says("A tick", "pick 3 / run 9*0", "3-5 g - / 6-8 a - / 9-10 r - / 11 g 0")
	m.says("A tick", "show", "power on slots 1,2,3,7 picked 3 runs 3 mode run ticks 12 alarms 0 clock 2000-01-01 00:00:12")
	// Behind an all red picture there is nothing to clear.
	m.says("A tick", "pick auto / run 12*0", "12-15 g - / 16-18 a - / 19 r - / 20-23 * -")
	m.says("A tick", "pick 1 / run 3*0 / pick 2 / run 2*0", "27 r - / 28 g 0")
	m.says("A tick", "pick 7 / run 20*0", "29-32 g - / 33-35 a - / 36 r - / 37-39 rr - / 40 lr - / 41-48 gr 0")
	// A slot that holds no plan.
	m.says("A tick", "pick auto / drop 7 / run 8*0", "49-52 ar - / 53 rr - / 54-56 * -")
}

// A lead that has begun ends in a green of its minimum.
func TestLeadIsLeft(t *testing.T) {
	m := stand(t, three+" / pick 1 / run 9*0")
	m.says("A tick", "pick auto / run 14*0", "9 lrr - / 10-16 grr - / 17-19 arr - / 20 rrr - / 21-22 * -")
	n := stand(t, three+" / pick 1 / run 9*0")
	n.says("A tick", "pick 2 / run 14*0", "9 lrr - / 10-16 grr - / 17-19 arr - / 20 rrr - / 21 r - / 22 g 0")
}

// The timetable's switches while plans run, each at its own minute; a pick goes ahead of it.
func TestSwitches(t *testing.T) {
	m := stand(t, three+" / put 8 / {table} / . / clock 2026-11-14 00:00 / run 50*0")
	m.says("A tick", "show", "power on slots 1,2,7,8 picked auto runs 7 mode run ticks 50 alarms 0 clock 2026-11-14 00:00:50")
	// Slot 7 is in force from yesterday on; slot 1 from the clock's minute 1 on.
	all := ticks(t, 50, m.does("run 250*0"))
	if len(all) != 250 {
		t.Fatalf("%d ticks", len(all))
	}
	for i, s := range all {
		second := 50 + i
		groups := len(s.Lamps)
		if s.Lamps == "*" {
			groups = 0
		}
		// A change takes no more than 20 ticks.
		want := []int{2, 3, 1, 0, 2}[second/60]
		if second%60 > 20 && groups != want {
			t.Errorf("second %d: %q, want %d letters", second, s.Lamps, want)
		}
	}
	m.says("A tick", "show", "power on slots 1,2,7,8 picked auto runs 7 mode run ticks 300 alarms 0 clock 2026-11-14 00:05:00")
	m.does("clock 2026-11-14 00:01 / run 30*0")
	m.says("A tick", "show", "power on slots 1,2,7,8 picked auto runs 1 mode run ticks 330 alarms 0 clock 2026-11-14 00:01:30")
	m.does("pick 2 / run 90*0")
	m.says("A tick", "show", "power on slots 1,2,7,8 picked 2 runs 2 mode run ticks 420 alarms 0 clock 2026-11-14 00:03:00")
	// Flash is in force by now.
	m.does("pick auto / run 20*0")
	m.says("A tick", "show", "power on slots 1,2,7,8 picked auto runs none mode dark ticks 440 alarms 0 clock 2026-11-14 00:03:20")
	// The tick itself at which the minute changes begins the new plan.
	m.says("A tick", "clock 2026-11-14 00:03 / run 61*0", "440-499 * - / 500 rr -")
	m.says("A tick", "drop 8 / run 0", "501 * -")
}

// The timetable's own slot runs on over a switch that names it again.
func TestSwitchToTheSame(t *testing.T) {
	m := stand(t, "flash 8 / power on / put 1 / {quick} / . / put 8 / timetable t / day a / at 00:00 slot 1 / at 00:01 slot 1 / week a a a a a a a / . / run 58*0")
	was := ticks(t, 58, m.does("run 4*0"))
	n := stand(t, "flash 8 / power on / put 1 / {quick} / . / pick 1 / run 58*0")
	if want := ticks(t, 58, n.does("run 4*0")); fmt.Sprint(was) != fmt.Sprint(want) {
		t.Errorf("A tick: %v, want %v", was, want)
	}
	// Another timetable that says the same: the plan goes on.
	m.does("put 8 / timetable t / day a / at 00:00 slot 1 / week a a a a a a a / .")
	if got, want := m.does("run 9*0"), n.does("run 9*0"); got != want {
		t.Errorf("A tick: %q, want %q", got, want)
	}
}

// A lamp that is stuck ahead of a run: the monitor trips at its first tick, or at the first one at which that is wrong.
func TestStuckAhead(t *testing.T) {
	m := stand(t, "stick 1 g / flash 8 / power on / put 1 / {small} / . / pick 1 / run 5*0 / log")
	m.says("Seeing", "log", "2 0 1 -1")
	m.says("Seeing", "run 4*0", "5 ... - / 6 rrr - / 7 ... - / 8 rrr -")
	m.says("Seeing", "show", "power on slots 1 picked 1 runs none mode tripped ticks 9 alarms 1 clock 2000-01-01 00:00:09")
	// Stuck red is seen when it should have turned.
	n := stand(t, "stick 0 r / flash 8 / power on / put 1 / {small} / . / pick 1")
	n.says("Seeing", "run 12*0 / log", "none")
	n.says("Seeing", "free / run 2*0 / log", "3 12 0 -1")
}

// A lamp that is stuck within a run.
func TestStuckWithin(t *testing.T) {
	m := stand(t, three+" / pick 1 / run 12*0 / stick 0 g")
	m.says("Seeing", "run 30*0", "12-30 grr 0 / 31-35 grr - / 36 rrr - / 37 ... - / 38 rrr - / 39 ... - / 40 rrr - / 41 ... -")
	m.says("Seeing", "log", "7 36 0 1")
	m.says("Seeing", "show", "power on slots 1,2,7 picked 1 runs none mode tripped ticks 42 alarms 1 clock 2000-01-01 00:00:42")
	m.refuses("Seeing", "power on", api.ErrArg)
	// What is wanted changes nothing while it is tripped.
	m.says("Seeing", "pick 2 / free / run 2*0", "42 rrr - / 43 ... -")
	m.says("Seeing", "pick auto / run 2*0", "44 rrr - / 45 ... -")
	m.says("Seeing", "reset / run 2*0", "46-47 * -")
	m.refuses("Seeing", "reset", api.ErrArg)
	m.says("Seeing", "pick 1 / run 2*0", "48-49 rrr -")
	m.refuses("Seeing", "reset", api.ErrArg)
	m.says("Seeing", "log", "7 36 0 1")
}

// A lamp that is stuck with what it shows anyway does no harm; one of a group that there is not neither.
func TestStuckHarmless(t *testing.T) {
	m := stand(t, "flash 8 / power on / put 1 / {small} / . / pick 1 / run 11*0 / stick 0 g / stick 1 r / stick 3 g / stick 63 a")
	m.says("Seeing", "run 5*0 / log", "none")
	m.says("Seeing", "free / run 0", "16 grr 0")
}

// A lamp that is stuck while a plan is left trips the monitor of that plan, by its own ticks.
func TestStuckClearing(t *testing.T) {
	m := stand(t, three+" / run 100*0 / pick 1 / run 12*0 / pick 2 / run 2*0 / stick 2 a")
	m.says("Seeing", "run 3*0", "114 rrr - / 115 ... - / 116 rrr -")
	m.says("Seeing", "log", "3 14 2 -1")
	m.says("Seeing", "free / reset / run 2*0 / show", "power on slots 1,2,7 picked 2 runs 2 mode run ticks 119 alarms 1 clock 2000-01-01 00:01:59")
}

// Two stuck lamps, each trip goes to the log; the last letter of a group is the one that counts.
func TestLog(t *testing.T) {
	m := stand(t, three+" / pick 1 / stick 0 l / stick 0 a / stick 2 g / run 0 / log")
	m.says("Seeing", "log", "2 0 0 -1")
	m.says("Seeing", "stick 0 r / reset / run 4*0 / log", "2 0 0 -1 / 2 0 2 -1")
	m.says("Seeing", "free / reset / pick 2 / run 4*0 / stick 0 r / run 2*0 / log", "2 0 0 -1 / 2 0 2 -1 / 3 4 0 -1")
	m.says("Seeing", "crash 0 0 / power on / log", "none")
}

// What flashes has as many letters as the plan had that tripped; the ticks' numbers tell red from dark.
func TestFlashing(t *testing.T) {
	m := stand(t, "flash 64 / power on / put 1 / {wide} / . / pick 1 / stick 63 g / run 3*0")
	r, d := strings.Repeat("r", 64), strings.Repeat(".", 64)
	m.says("Seeing", "run 2*0", "3 "+d+" - / 4 "+r+" -")
	m.says("Seeing", "log", "2 0 63 -1")
	m.says("Seeing", "free / reset / run 3*0", "5 "+r+" - / 6-7 "+strings.Repeat("g", 64)+" 0")
	m.says("Seeing", "stick 63 r / run 2*0", "8 "+r+" - / 9 "+d+" -")
	m.says("Seeing", "log", "2 0 63 -1 / 3 3 63 -1")
}

// A stretch is of a line's own ticks: the same lamps in two lines are two.
func TestStretches(t *testing.T) {
	m := stand(t, three+" / pick 1")
	m.says("run", "run 3*0", "0-2 rrr -")
	m.says("run", "run 0", "3 rrr -")
	m.says("run", "run 0 0", "4-5 rrr -")
	m.says("run", "run 5*0", "6-7 rrr - / 8-9 lrr - / 10 grr 0")
	// The same lamps with another stage are another stretch.
	n := stand(t, "flash 8 / power on / put 1 / plan p { / group a vehicle min 5 amber 3; / start s; / stage s { green a; next t when true; } / stage t { green a; next s when elapsed >= 2; } / } / . / pick 1")
	n.says("run", "run 9*0", "0 r - / 1 g 0 / 2-4 g 1 / 5 g 0 / 6-8 g 1")
}

// The power begins all anew; the clock and what is stuck stay.
func TestPowerAnew(t *testing.T) {
	m := stand(t, three+" / pick 1 / clock 2026-11-14 07:30 / run 12*0 / power off / power on")
	m.says("What it holds", "show", "power on slots 1,2,7 picked 1 runs none mode dark ticks 0 alarms 0 clock 2026-11-14 07:30:12")
	m.says("What it holds", "run 10*0", "0-7 rrr - / 8-9 lrr -")
	m.says("What it holds", "stick 0 g / run 2*0 / power off / power on / show", "power on slots 1,2,7 picked 1 runs none mode dark ticks 0 alarms 0 clock 2026-11-14 07:30:24")
	m.says("What it holds", "run 2*0 / log", "2 0 0 -1")
	m.says("What it holds", "power off / free / power on / run 2*0", "0-1 rrr -")
}
