package vm

import (
	"junction/api"
	"junction/arith"
)

// instruction is what one does. The machine stands at the place behind it by then.
type instruction func(v *Machine, in api.Instr)

// instructions stand by their numbers; a place without one is nil. The language keeps tables of functions away from package level: so this one stands in a function.
func instructions() [api.InPick + 1]instruction {
	return [...]instruction{
		api.OpNeg: (*Machine).unary, api.OpNot: (*Machine).unary, api.OpAbs: (*Machine).unary,

		api.OpAdd: (*Machine).binary, api.OpSub: (*Machine).binary, api.OpMul: (*Machine).binary,
		api.OpDiv: (*Machine).binary, api.OpRem: (*Machine).binary,
		api.OpMin: (*Machine).binary, api.OpMax: (*Machine).binary,
		api.OpEq: (*Machine).binary, api.OpNe: (*Machine).binary,
		api.OpLt: (*Machine).binary, api.OpLe: (*Machine).binary, api.OpGt: (*Machine).binary, api.OpGe: (*Machine).binary,
		api.OpAnd: (*Machine).binary, api.OpOr: (*Machine).binary,

		api.InConst:   (*Machine).putConst,
		api.InSmall:   (*Machine).putArg,
		api.InTruth:   (*Machine).putArg,
		api.InElapsed: (*Machine).putElapsed,
		api.InVar:     (*Machine).putVar,
		api.InTimer:   (*Machine).putTimer,
		api.InCounter: (*Machine).putCounter,
		api.InDet:     (*Machine).putDet,
		api.InGreen:   (*Machine).putGreen,
		api.InRed:     (*Machine).putRed,

		api.InStore: (*Machine).store,
		api.InReset: (*Machine).resetTimer,
		api.InZero:  (*Machine).zeroCounter,
		api.InRun:   (*Machine).runTimer,
		api.InStop:  (*Machine).stopTimer,
		api.InCount: (*Machine).countUp,
		api.InClear: (*Machine).clearDet,

		api.InIf:   (*Machine).jumpUnless,
		api.InJump: (*Machine).jump,
		api.InAnd:  (*Machine).jumpAtFalse,
		api.InOr:   (*Machine).jumpAtTrue,
		api.InPick: (*Machine).pick,
		api.InEnd:  (*Machine).end,
	}
}

func (v *Machine) unary(in api.Instr) {
	word, _ := arith.Unary(in.Op, v.take())
	v.put(word)
}

func (v *Machine) binary(in api.Instr) {
	second := v.take()
	word, _ := arith.Binary(in.Op, v.take(), second)
	v.put(word)
}

func (v *Machine) putConst(in api.Instr) { v.put(v.image.pool[in.Arg]) }

func (v *Machine) putArg(in api.Instr) { v.put(in.Arg) }

func (v *Machine) putElapsed(api.Instr) { v.put(v.now.Elapsed) }

func (v *Machine) putVar(in api.Instr) { v.put(v.now.Vars[in.Arg]) }

func (v *Machine) putTimer(in api.Instr) { v.put(v.now.Timers[in.Arg].Value) }

func (v *Machine) putCounter(in api.Instr) { v.put(v.now.Counters[in.Arg]) }

func (v *Machine) putDet(in api.Instr) {
	v.putTruth(arith.Says(v.image.dets[in.Arg], v.now.Dets[in.Arg]))
}

func (v *Machine) putGreen(in api.Instr) { v.putTruth(v.now.Heads.Aspect[in.Arg] == api.Green) }

func (v *Machine) putRed(in api.Instr) { v.putTruth(v.now.Heads.Aspect[in.Arg] == api.Red) }

func (v *Machine) putTruth(is bool) {
	if is {
		v.put(1)
	} else {
		v.put(0)
	}
}

func (v *Machine) store(in api.Instr) { v.now.Vars[in.Arg] = v.take() }

func (v *Machine) resetTimer(in api.Instr) { v.now.Timers[in.Arg].Value = 0 }

func (v *Machine) zeroCounter(in api.Instr) { v.now.Counters[in.Arg] = 0 }

func (v *Machine) runTimer(in api.Instr) { v.now.Timers[in.Arg].Running = true }

func (v *Machine) stopTimer(in api.Instr) { v.now.Timers[in.Arg].Running = false }

func (v *Machine) countUp(in api.Instr) { v.now.Counters[in.Arg] = arith.Up(v.now.Counters[in.Arg]) }

func (v *Machine) clearDet(in api.Instr) { v.now.Dets[in.Arg] = arith.ClearDet(v.now.Dets[in.Arg]) }

func (v *Machine) jumpUnless(in api.Instr) {
	if v.take() == 0 {
		v.jump(in)
	}
}

func (v *Machine) jump(in api.Instr) { v.work.place = int(in.Arg) }

// jumpAtFalse leaves the truth on the stack where it jumps: there it is what the whole is worth.
func (v *Machine) jumpAtFalse(in api.Instr) {
	if v.top() == 0 {
		v.jump(in)
	} else {
		v.take()
	}
}

// jumpAtTrue leaves the truth on the stack where it jumps.
func (v *Machine) jumpAtTrue(in api.Instr) {
	if v.top() == 1 {
		v.jump(in)
	} else {
		v.take()
	}
}

func (v *Machine) pick(in api.Instr) {
	v.work.picked = v.image.ids[in.Arg]
	v.work.ended = true
}

func (v *Machine) end(api.Instr) { v.work.ended = true }
