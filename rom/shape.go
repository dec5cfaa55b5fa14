package rom

import "junction/api"

// shape is what an instruction's Arg may be, and in how many bytes it is written.
type shape struct {
	width  int
	lo, hi int
}

// shapeOf is the shape of the instructions of a number; false of a number that no instruction has.
func shapeOf(op int) (shape, bool) {
	switch op {
	case api.OpNeg, api.OpNot, api.OpAbs,
		api.OpAdd, api.OpSub, api.OpMul, api.OpDiv, api.OpRem, api.OpMin, api.OpMax,
		api.OpEq, api.OpNe, api.OpLt, api.OpLe, api.OpGt, api.OpGe,
		api.OpAnd, api.OpOr,
		api.InEnd, api.InElapsed:
		return shape{}, true
	case api.InConst:
		return shape{width: 2, hi: maxShort}, true
	case api.InSmall:
		return shape{width: 1, lo: -128, hi: 127}, true
	case api.InTruth:
		return shape{width: 1, hi: 1}, true
	case api.InVar, api.InTimer, api.InCounter, api.InDet, api.InGreen, api.InRed,
		api.InStore, api.InReset, api.InZero, api.InRun, api.InStop, api.InCount, api.InClear,
		api.InPick:
		return shape{width: 1, hi: 255}, true
	case api.InIf, api.InJump, api.InAnd, api.InOr:
		return shape{width: 4, hi: maxPlace}, true
	}
	return shape{}, false
}
