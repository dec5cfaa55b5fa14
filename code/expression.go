package code

import (
	"junction/api"
	"junction/arith"
)

// expression writes the code of a sound expression.
func (w *writer) expression(e []api.Node) {
	w.depth = max(w.depth, depthOf(e))
	shortcuts := shortcutsOf(e)
	for i, n := range e {
		if shortcuts[i] != 0 {
			w.await(w.jump(shortcuts[i]))
		}
		w.node(n)
	}
}

// node writes what an expression's node does when its operands have been written.
func (w *writer) node(n api.Node) {
	switch {
	case shortcutOf(n.Op) != 0:
		w.land()
	case n.Op == api.OpInt:
		w.number(n.Val)
	case arith.Arity(n.Op) == 0:
		w.put(leaves[n.Op], n.Val)
	default:
		w.put(n.Op, 0)
	}
}

func (w *writer) number(word int32) {
	if -128 <= word && word <= 127 {
		w.put(api.InSmall, word)
		return
	}
	w.put(api.InConst, int32(w.placeOf(word)))
}

// leaves holds which instruction puts a leaf's worth on the stack, at the leaf's number. Numbers alone are of two sorts.
var leaves = [...]int{
	api.OpBool:    api.InTruth,
	api.OpElapsed: api.InElapsed,
	api.OpGreen:   api.InGreen,
	api.OpRed:     api.InRed,
	api.OpVar:     api.InVar,
	api.OpTimer:   api.InTimer,
	api.OpCounter: api.InCounter,
	api.OpDet:     api.InDet,
}

// shortcutOf is the jump over the second operand of an and or an or; 0 of every other node.
func shortcutOf(op int) int {
	switch op {
	case api.OpAnd:
		return api.InAnd
	case api.OpOr:
		return api.InOr
	}
	return 0
}

// shortcutsOf holds the jump over a second operand at the place of that operand's first node, ahead of whose code it stands; 0 elsewhere. No place is told twice: the node ahead of it is the root of the first operand, which has one operator alone.
func shortcutsOf(e []api.Node) []int {
	list := make([]int, len(e))
	var starts []int // where each operand begins whose operator is still to come
	for i, n := range e {
		switch arith.Arity(n.Op) {
		case 0:
			starts = append(starts, i)
		case 2:
			last := len(starts) - 1
			list[starts[last]] = shortcutOf(n.Op)
			starts = starts[:last]
		}
	}
	return list
}

// depthOf is the height of the stack at most while the code of a sound expression runs.
func depthOf(e []api.Node) int {
	var depths []int // of each operand whose operator is still to come
	for _, n := range e {
		switch last := len(depths) - 1; arith.Arity(n.Op) {
		case 0:
			depths = append(depths, 1)
		case 2:
			depths[last-1] = max(depths[last-1], depths[last]+below(n.Op))
			depths = depths[:last]
		}
	}
	return depths[0]
}

// below is how many words the first operand leaves on the stack while the second one's code runs: an and and an or have taken theirs off by then.
func below(op int) int {
	if shortcutOf(op) != 0 {
		return 0
	}
	return 1
}
