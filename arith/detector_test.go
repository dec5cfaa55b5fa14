package arith_test

import (
	"math"
	"testing"

	"junction/api"
	"junction/arith"
)

// P1.7: the states of one detector, tick by tick.
func TestSenseStates(t *testing.T) {
	type tick struct {
		raw  bool
		want api.DetState
	}
	for _, c := range []struct {
		name  string
		d     api.Det
		ticks []tick
	}{
		{"plain", api.Det{}, []tick{
			{false, api.DetState{}},
			{true, api.DetState{Run: 1, On: true}},
			{true, api.DetState{Run: 2, On: true}},
			{false, api.DetState{}},
		}},
		{"delay 1, hold 2", api.Det{Delay: 1, Hold: 2}, []tick{
			{true, api.DetState{Run: 1}},
			{true, api.DetState{Run: 2, Left: 2, On: true}},
			{false, api.DetState{Left: 1, On: true}},
			{false, api.DetState{On: true}},
			{false, api.DetState{}},
		}},
		{"a bit within the hold, below the delay", api.Det{Delay: 1, Hold: 2}, []tick{
			{true, api.DetState{Run: 1}},
			{true, api.DetState{Run: 2, Left: 2, On: true}},
			{false, api.DetState{Left: 1, On: true}},
			{true, api.DetState{Run: 1, On: true}},
			{true, api.DetState{Run: 2, Left: 2, On: true}},
		}},
		{"latch", api.Det{Latch: true}, []tick{
			{true, api.DetState{Run: 1, On: true, Mem: true}},
			{false, api.DetState{Mem: true}},
			{false, api.DetState{Mem: true}},
		}},
		{"latch with a delay", api.Det{Latch: true, Delay: 2, Hold: 1}, []tick{
			{true, api.DetState{Run: 1}},
			{true, api.DetState{Run: 2}},
			{false, api.DetState{}},
			{true, api.DetState{Run: 1}},
			{true, api.DetState{Run: 2}},
			{true, api.DetState{Run: 3, Left: 1, On: true, Mem: true}},
			{false, api.DetState{On: true, Mem: true}},
			{false, api.DetState{Mem: true}},
		}},
	} {
		var s api.DetState
		for i, k := range c.ticks {
			if s = arith.Sense(c.d, s, k.raw); s != k.want {
				t.Errorf("%s, tick %d: %+v, want %+v", c.name, i, s, k.want)
			}
		}
	}
}

// P1.7: rows and states out of the ordinary.
func TestSenseEdges(t *testing.T) {
	for _, c := range []struct {
		name string
		d    api.Det
		s    api.DetState
		raw  bool
		want api.DetState
	}{
		{"delay and hold below 0", api.Det{Delay: -1, Hold: -7}, api.DetState{}, true, api.DetState{Run: 1, On: true}},
		{"the least delay and hold", api.Det{Delay: math.MinInt, Hold: math.MinInt}, api.DetState{}, true, api.DetState{Run: 1, On: true}},
		{"a delay below 0, no bit", api.Det{Delay: -1, Hold: 3}, api.DetState{}, false, api.DetState{}},
		{"run and left below 0", api.Det{Delay: 1, Hold: 2}, api.DetState{Run: -9, Left: -9}, true, api.DetState{Run: 1}},
		{"run and left below 0, no bit", api.Det{Hold: 2}, api.DetState{Run: least, Left: least}, false, api.DetState{}},
		{"one short of the delay's end", api.Det{Delay: 4}, api.DetState{Run: 3}, true, api.DetState{Run: 4}},
		{"the delay's end", api.Det{Delay: 4}, api.DetState{Run: 4}, true, api.DetState{Run: 5, On: true}},
		{"run stays at its greatest", api.Det{}, api.DetState{Run: greatest}, true, api.DetState{Run: greatest, On: true}},
		{"a delay one below the greatest", api.Det{Delay: greatest - 1}, api.DetState{Run: greatest - 1}, true, api.DetState{Run: greatest, On: true}},
		{"the greatest delay", api.Det{Delay: greatest}, api.DetState{Run: greatest}, true, api.DetState{Run: greatest}},
		{"a delay past the words", api.Det{Delay: 1 << 32}, api.DetState{Run: greatest}, true, api.DetState{Run: greatest}},
		{"the greatest int as a delay", api.Det{Delay: math.MaxInt, Latch: true}, api.DetState{Run: greatest}, true, api.DetState{Run: greatest}},
		{"the greatest hold", api.Det{Hold: greatest}, api.DetState{}, true, api.DetState{Run: 1, Left: greatest, On: true}},
		{"a hold past the words", api.Det{Hold: 1<<32 + 2}, api.DetState{}, true, api.DetState{Run: 1, Left: greatest, On: true}},
		{"the greatest left", api.Det{Hold: 1}, api.DetState{Left: greatest}, false, api.DetState{Left: greatest - 1, On: true}},
		{"left above the hold", api.Det{Hold: 1}, api.DetState{Left: 5}, true, api.DetState{Run: 1, Left: 1, On: true}},
		{"left without a hold", api.Det{}, api.DetState{Left: 1}, false, api.DetState{On: true}},
		{"what was on counts for nothing", api.Det{}, api.DetState{On: true}, false, api.DetState{}},
		{"a latch that the row does not have", api.Det{}, api.DetState{Mem: true}, true, api.DetState{Run: 1, On: true}},
		{"a latch that stays", api.Det{Latch: true, Delay: 3}, api.DetState{Mem: true}, true, api.DetState{Run: 1, Mem: true}},
		{"a hold does not latch", api.Det{Latch: true, Hold: 2}, api.DetState{Left: 2}, false, api.DetState{Left: 1, On: true}},
	} {
		if got := arith.Sense(c.d, c.s, c.raw); got != c.want {
			t.Errorf("%s: %+v, want %+v", c.name, got, c.want)
		}
		c.d.Name = "named"
		if got := arith.Sense(c.d, c.s, c.raw); got != c.want {
			t.Errorf("%s, with a name: %+v, want %+v", c.name, got, c.want)
		}
	}
}

// activeAt: whether the bit has been 1 for more ticks in a row than the delay, up to that tick.
func activeAt(d api.Det, bits uint, tick int) bool {
	for i := tick - d.Delay; i <= tick; i++ {
		if i < 0 || bits>>i&1 == 0 {
			return false
		}
	}
	return true
}

// P1.7: over all inputs of ten ticks: on is being active now, or at most Hold ticks ago; the latch is having been active ever.
func TestSenseHistories(t *testing.T) {
	const ticks = 10
	for row := range 32 {
		d := api.Det{Delay: row & 3, Hold: row >> 2 & 3, Latch: row>>4 == 1}
		for bits := range uint(1) << ticks {
			var s api.DetState
			last, ever := -100, false
			for i := range ticks {
				s = arith.Sense(d, s, bits>>i&1 == 1)
				if activeAt(d, bits, i) {
					last, ever = i, true
				}
				on := i-last <= d.Hold
				if s.On != on || s.Mem != (d.Latch && ever) || arith.Says(d, s) != (on || d.Latch && ever) {
					t.Fatalf("%+v, bits %b, tick %d: %+v", d, bits, i, s)
				}
			}
		}
	}
}

// P1.7
func TestSays(t *testing.T) {
	for _, c := range []struct{ latch, on, mem, want bool }{
		{false, false, false, false}, {false, false, true, false}, {false, true, false, true}, {false, true, true, true},
		{true, false, false, false}, {true, false, true, true}, {true, true, false, true}, {true, true, true, true},
	} {
		d := api.Det{Name: "d", Latch: c.latch, Delay: 3, Hold: 3}
		if got := arith.Says(d, api.DetState{Run: 9, Left: 9, On: c.on, Mem: c.mem}); got != c.want {
			t.Errorf("%+v: %v", c, got)
		}
	}
}

// P1.7
func TestClearDet(t *testing.T) {
	for _, s := range []api.DetState{{}, {Run: 3, Left: 2, On: true}, {Run: -3, Left: -2}, {Run: greatest, Left: greatest}, {Run: least, Left: least, On: true}} {
		latched := s
		latched.Mem = true
		if got := arith.ClearDet(latched); got != s {
			t.Errorf("ClearDet(%+v) = %+v", latched, got)
		}
		if got := arith.ClearDet(s); got != s {
			t.Errorf("ClearDet(%+v) = %+v", s, got)
		}
	}
}

// P1.7: bits 1, 0, then a clear, then 0; and a clear of one that is on.
func TestClearBetweenTicks(t *testing.T) {
	d := api.Det{Latch: true}
	s := arith.Sense(d, api.DetState{}, true)
	if !arith.Says(d, s) || !arith.Says(d, arith.ClearDet(s)) {
		t.Errorf("on: %+v", s)
	}
	again := arith.Sense(d, arith.ClearDet(s), true)
	if !again.Mem {
		t.Errorf("active again behind a clear: %+v", again)
	}
	if s = arith.Sense(d, s, false); !arith.Says(d, s) {
		t.Errorf("latched: %+v", s)
	}
	if s = arith.ClearDet(s); arith.Says(d, s) {
		t.Errorf("cleared: %+v", s)
	}
	if s = arith.Sense(d, s, false); arith.Says(d, s) {
		t.Errorf("behind the clear: %+v", s)
	}
}
