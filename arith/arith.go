// Package arith: words, meters and sets: see ../shared/doc/01-arith.md.
package arith

import "junction/api"

// arities holds one more than the operands of each operator, so that a place without an operator, which is 0, stands for -1.
var arities = [...]int{
	api.OpInt: 1, api.OpBool: 1, api.OpName: 1, api.OpElapsed: 1, api.OpGreen: 1,
	api.OpRed: 1, api.OpVar: 1, api.OpTimer: 1, api.OpCounter: 1, api.OpDet: 1,

	api.OpNeg: 2, api.OpNot: 2, api.OpAbs: 2,

	api.OpAdd: 3, api.OpSub: 3, api.OpMul: 3, api.OpDiv: 3, api.OpRem: 3, api.OpMin: 3, api.OpMax: 3,
	api.OpEq: 3, api.OpNe: 3, api.OpLt: 3, api.OpLe: 3, api.OpGt: 3, api.OpGe: 3,
	api.OpAnd: 3, api.OpOr: 3,
}

// Arity tells how many operands an operator takes: 0, 1 or 2; -1: there is none of that number.
func Arity(op int) int {
	if op < 0 || op >= len(arities) {
		return -1
	}
	return arities[op] - 1
}

// Unary answers an operator of one operand.
func Unary(op int, a int32) (int32, api.Errno) {
	if Arity(op) != 1 {
		return 0, api.ErrOp
	}
	// The language keeps tables of functions away from package level: this one stands where it is read.
	table := [...]func(word) word{
		api.OpNeg: word.negated,
		api.OpNot: word.not,
		api.OpAbs: word.abs,
	}
	return int32(table[op](word(a))), api.OK
}

// Binary answers an operator of two operands.
func Binary(op int, a, b int32) (int32, api.Errno) {
	if Arity(op) != 2 {
		return 0, api.ErrOp
	}
	table := [...]func(word, word) word{
		api.OpAdd: word.plus,
		api.OpSub: word.minus,
		api.OpMul: word.times,
		api.OpDiv: word.over,
		api.OpRem: word.rest,
		api.OpMin: word.lesser,
		api.OpMax: word.greater,

		api.OpEq: word.equal,
		api.OpNe: word.unequal,
		api.OpLt: word.below,
		api.OpLe: word.atMost,
		api.OpGt: word.above,
		api.OpGe: word.atLeast,

		api.OpAnd: word.and,
		api.OpOr:  word.or,
	}
	return int32(table[op](word(a), word(b))), api.OK
}
