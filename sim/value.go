package sim

import (
	"junction/api"
	"junction/arith"
)

// value is an expression made ready: what it is worth in a state.
type value func(now *api.State) int32

// valueOf makes a sound expression ready, node by node: as each stands behind its operands, these are the topmost of the stack by then.
func valueOf(dets []api.Det, e []api.Node) value {
	var stack []value
	for _, n := range e {
		switch top := len(stack) - 1; arith.Arity(n.Op) {
		case 1:
			stack[top] = unary(n.Op, stack[top])
		case 2:
			stack = append(stack[:top-1], binary(n.Op, stack[top-1], stack[top]))
		default:
			stack = append(stack, leaf(dets, n))
		}
	}
	return stack[0]
}

func unary(op int, a value) value {
	return func(now *api.State) int32 {
		n, _ := arith.Unary(op, a(now))
		return n
	}
}

func binary(op int, a, b value) value {
	return func(now *api.State) int32 {
		n, _ := arith.Binary(op, a(now), b(now))
		return n
	}
}

func leaf(dets []api.Det, n api.Node) value {
	at := int(n.Val)
	switch n.Op {
	case api.OpElapsed:
		return func(now *api.State) int32 { return now.Elapsed }
	case api.OpGreen:
		return shows(at, api.Green)
	case api.OpRed:
		return shows(at, api.Red)
	case api.OpVar:
		return func(now *api.State) int32 { return now.Vars[at] }
	case api.OpTimer:
		return func(now *api.State) int32 { return now.Timers[at].Value }
	case api.OpCounter:
		return func(now *api.State) int32 { return now.Counters[at] }
	case api.OpDet:
		return says(at, dets[at])
	}
	return func(*api.State) int32 { return n.Val }
}

func shows(group, aspect int) value {
	return func(now *api.State) int32 { return truth(now.Heads.Aspect[group] == aspect) }
}

func says(at int, row api.Det) value {
	return func(now *api.State) int32 { return truth(arith.Says(row, now.Dets[at])) }
}

func truth(is bool) int32 {
	if is {
		return 1
	}
	return 0
}
