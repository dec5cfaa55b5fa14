package load

import "junction/api"

// effect is what an instruction does to the stack.
type effect struct {
	takes int // how many words
	of    kind
	puts  kind
}

// effectOf is what an instruction does where it goes on. What InAnd and InOr leave on the stack where they jump is not in it.
func effectOf(op int) effect {
	switch op {
	case api.InConst, api.InSmall, api.InElapsed, api.InVar, api.InTimer, api.InCounter:
		return effect{puts: number}
	case api.InTruth, api.InDet, api.InGreen, api.InRed:
		return effect{puts: truth}
	case api.OpNeg, api.OpAbs:
		return effect{takes: 1, of: number, puts: number}
	case api.OpNot:
		return effect{takes: 1, of: truth, puts: truth}
	case api.OpAdd, api.OpSub, api.OpMul, api.OpDiv, api.OpRem, api.OpMin, api.OpMax:
		return effect{takes: 2, of: number, puts: number}
	case api.OpLt, api.OpLe, api.OpGt, api.OpGe:
		return effect{takes: 2, of: number, puts: truth}
	case api.OpEq, api.OpNe:
		return effect{takes: 2, of: alike, puts: truth}
	case api.OpAnd, api.OpOr:
		return effect{takes: 2, of: truth, puts: truth}
	case api.InStore:
		return effect{takes: 1, of: number}
	case api.InIf, api.InAnd, api.InOr:
		return effect{takes: 1, of: truth}
	}
	return effect{}
}

// room is how many there are of what an instruction's Arg names. Of an Arg that names nothing in a table it is more than any Arg.
func room(m *api.Image, op int) int {
	switch op {
	case api.InConst:
		return len(m.Pool)
	case api.InVar, api.InStore:
		return len(m.Vars)
	case api.InTimer, api.InReset, api.InRun, api.InStop:
		return m.Timers
	case api.InCounter, api.InZero, api.InCount:
		return m.Counters
	case api.InDet, api.InClear:
		return len(m.Dets)
	case api.InGreen, api.InRed:
		return len(m.Tables.Groups)
	case api.InPick:
		return len(m.Slots)
	}
	return api.MaxCode
}

func ends(op int) bool { return op == api.InEnd || op == api.InPick }

func jumps(op int) bool {
	return op == api.InIf || op == api.InJump || keepsTruth(op)
}

// keepsTruth tells whether a jump leaves the truth on the stack that it takes off where it goes on.
func keepsTruth(op int) bool { return op == api.InAnd || op == api.InOr }

func goesOn(op int) bool { return !ends(op) && op != api.InJump }
