package tree

import "junction/api"

// shape is what a node's Op says of it.
type shape struct {
	operands int
	level    int
	opens    bool   // written as a prefix, or with brackets of its own
	asks     [2]int // the least level that each operand may have without brackets around it
}

// shapeOf answers false for a number that is no node's Op.
func shapeOf(op int) (shape, bool) {
	switch op {
	case api.OpInt, api.OpBool, api.OpName, api.OpElapsed, api.OpGreen, api.OpRed, api.OpVar, api.OpTimer, api.OpCounter, api.OpDet:
		return shape{level: levelPrimary}, true
	case api.OpNeg:
		return shape{operands: 1, level: levelNegation, opens: true, asks: [2]int{levelNegation}}, true
	case api.OpNot:
		return shape{operands: 1, level: levelNot, opens: true, asks: [2]int{levelNot}}, true
	case api.OpAbs:
		return shape{operands: 1, level: levelPrimary, opens: true, asks: [2]int{levelOr}}, true
	case api.OpMin, api.OpMax:
		return shape{operands: 2, level: levelPrimary, opens: true, asks: [2]int{levelOr, levelOr}}, true
	case api.OpMul, api.OpDiv, api.OpRem:
		return shape{operands: 2, level: levelProduct, asks: [2]int{levelProduct, levelNegation}}, true
	case api.OpAdd, api.OpSub:
		return shape{operands: 2, level: levelSum, asks: [2]int{levelSum, levelProduct}}, true
	case api.OpEq, api.OpNe, api.OpLt, api.OpLe, api.OpGt, api.OpGe:
		return shape{operands: 2, level: levelRelation, asks: [2]int{levelSum, levelSum}}, true
	case api.OpAnd:
		return shape{operands: 2, level: levelAnd, asks: [2]int{levelAnd, levelNot}}, true
	case api.OpOr:
		return shape{operands: 2, level: levelOr, asks: [2]int{levelOr, levelAnd}}, true
	}
	return shape{}, false
}

// Span is where the subtree whose root is at i begins, or -1.
func Span(e []api.Node, i int) int {
	if i >= len(e) {
		return -1
	}
	wanted := 1
	for j := i; j >= 0; j-- {
		s, ok := shapeOf(e[j].Op)
		if !ok {
			return -1
		}
		wanted += s.operands - 1
		if wanted == 0 {
			return j
		}
	}
	return -1
}

// measured is what a node that stands above an expression asks of it.
type measured struct {
	level, nest int
}

// Nest is how many brackets and prefixes are open at most when an expression is printed, or -1.
func Nest(e []api.Node) int {
	if Span(e, len(e)-1) != 0 {
		return -1
	}
	// A list of its own instead of calls within calls: a tree may be deeper than those can go.
	var waiting []measured
	for _, n := range e {
		s, _ := shapeOf(n.Op)
		rest := len(waiting) - s.operands
		m := measured{level: s.level, nest: nestOver(s, waiting[rest:])}
		waiting = append(waiting[:rest], m)
	}
	return waiting[0].nest
}

// nestOver is the nest of a node over its operands.
func nestOver(s shape, operands []measured) int {
	most := 0
	for i, m := range operands {
		nest := m.nest
		if m.level < s.asks[i] {
			nest++
		}
		most = max(most, nest)
	}
	if s.opens {
		most++
	}
	return most
}
