package vm

import (
	"testing"

	"junction/api"
)

// P13.3: an image that is not verified can lack what its instructions ask for. New takes none, so this looks from inside: the section ends there, nothing is picked, and the tick goes on.
func TestFaultsInside(t *testing.T) {
	t.Parallel()
	in := func(op int, arg int32) api.Instr { return api.Instr{Op: op, Arg: arg} }
	one := in(api.InSmall, 1)
	for i, c := range []struct {
		code []api.Instr
		high int
	}{
		// Words that are not there.
		{[]api.Instr{in(api.InStore, 0)}, 0},
		{[]api.Instr{in(api.OpNeg, 0)}, 0},
		{[]api.Instr{in(api.OpAdd, 0)}, 0},
		{[]api.Instr{one, in(api.OpAdd, 0)}, 1},
		{[]api.Instr{in(api.InIf, 0)}, 0},
		{[]api.Instr{in(api.InAnd, 0)}, 0},
		{[]api.Instr{in(api.InOr, 0)}, 0},
		// Things that are not there.
		{[]api.Instr{one, in(api.InStore, 1)}, 1},
		{[]api.Instr{one, in(api.InVar, 1)}, 1},
		{[]api.Instr{one, in(api.InVar, -1)}, 1},
		{[]api.Instr{one, in(api.InConst, 0)}, 1},
		{[]api.Instr{one, in(api.InTimer, 0)}, 1},
		{[]api.Instr{one, in(api.InReset, 0)}, 1},
		{[]api.Instr{one, in(api.InRun, 0)}, 1},
		{[]api.Instr{one, in(api.InStop, 0)}, 1},
		{[]api.Instr{one, in(api.InCounter, 1)}, 1},
		{[]api.Instr{one, in(api.InZero, 1)}, 1},
		{[]api.Instr{one, in(api.InCount, 1)}, 1},
		{[]api.Instr{one, in(api.InDet, 0)}, 1},
		{[]api.Instr{one, in(api.InClear, 0)}, 1},
		{[]api.Instr{one, in(api.InGreen, 0)}, 1},
		{[]api.Instr{one, in(api.InRed, 0)}, 1},
		{[]api.Instr{in(api.InPick, 2)}, 0},
		{[]api.Instr{in(api.InPick, -1)}, 0},
		// Places and instructions that are not there. What is left on the stack the next section does not find.
		{[]api.Instr{one}, 1},
		{[]api.Instr{one, one, in(api.InJump, 1000)}, 2},
		{[]api.Instr{in(api.InJump, -1)}, 0},
		{[]api.Instr{in(0, 0)}, 0},
		{[]api.Instr{in(151, 0)}, 0},
		{[]api.Instr{in(-1, 0)}, 0},
		{[]api.Instr{in(1<<63-1, 0)}, 0},
	} {
		// The sections Enter and Tick are both the one with the fault, behind a count; the slot with the Id 0 is there to be picked by mistake.
		code := append([]api.Instr{in(api.InEnd, 0), in(api.InCount, 0)}, c.code...)
		v := begun(api.Image{Vars: []int32{0}, Counters: 1, Slots: []api.Slot{{Id: 0}, {Id: 5, Enter: 1, Tick: 1}}, Start: 1, Code: code})
		v.Tick(0)
		for tick := range 3 {
			if e := v.Tick(0); e != (api.Entry{Stage: 5}) {
				t.Errorf("row %d, tick %d: %v", i, tick, e)
			}
			if s := v.now; s.Tick != tick+2 || s.Stage != 5 || s.Target != none || int(s.Elapsed) != tick || int(s.Counters[0]) != tick+2 || s.Vars[0] != 0 {
				t.Errorf("row %d, tick %d: %+v", i, tick, s)
			}
			if v.High() != c.high {
				t.Errorf("row %d, tick %d: %d high, want %d", i, tick, v.High(), c.high)
			}
		}
	}
}
