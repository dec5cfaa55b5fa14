package check

import (
	"junction/api"
	"junction/tree"
)

// rule is what a node asks of its operands, and what it is.
type rule struct {
	operands int
	of       int // the type of each operand; 0: of either type, both alike
	is       int
}

// ruleOf tells no type of an OpName: that hangs on its name.
func ruleOf(op int) rule {
	switch op {
	case api.OpInt, api.OpElapsed, api.OpVar, api.OpTimer, api.OpCounter:
		return rule{is: api.TyInt}
	case api.OpBool, api.OpGreen, api.OpRed, api.OpDet:
		return rule{is: api.TyBool}
	case api.OpNeg, api.OpAbs:
		return rule{operands: 1, of: api.TyInt, is: api.TyInt}
	case api.OpNot:
		return rule{operands: 1, of: api.TyBool, is: api.TyBool}
	case api.OpAdd, api.OpSub, api.OpMul, api.OpDiv, api.OpRem, api.OpMin, api.OpMax:
		return rule{operands: 2, of: api.TyInt, is: api.TyInt}
	case api.OpLt, api.OpLe, api.OpGt, api.OpGe:
		return rule{operands: 2, of: api.TyInt, is: api.TyBool}
	case api.OpEq, api.OpNe:
		return rule{operands: 2, is: api.TyBool}
	case api.OpAnd, api.OpOr:
		return rule{operands: 2, of: api.TyBool, is: api.TyBool}
	}
	return rule{}
}

// takes tells whether operands of those types may stand under the node.
func (r rule) takes(types []int) bool {
	for _, typ := range types {
		if r.of != 0 && typ != r.of || typ != types[0] {
			return false
		}
	}
	return true
}

// typeOver is the type of the one tree that a list is. What a leaf is, its own function tells.
func typeOver(e []api.Node, leafType func(api.Node) (int, api.Errno)) (int, api.Fault) {
	var waiting []int // the types of the operands whose node has not come
	for _, n := range e {
		r := ruleOf(n.Op)
		if r.operands == 0 {
			typ, errno := leafType(n)
			if errno != api.OK {
				return 0, api.Fault{Code: errno, At: n.At}
			}
			waiting = append(waiting, typ)
			continue
		}
		rest := len(waiting) - r.operands
		if !r.takes(waiting[rest:]) {
			return 0, api.Fault{Code: api.ErrType, At: n.At}
		}
		waiting = append(waiting[:rest], r.is)
	}
	return waiting[0], api.Fault{}
}

// exprScope looks at expressions over the scope of a plan, and puts in what the names stand for.
type exprScope struct {
	planScope
	consts []int32      // the value of each constant
	conds  [][]api.Node // the resolved expression of each condition
}

// typeOf takes a well-formed expression alone.
func (s exprScope) typeOf(e []api.Node) (int, api.Fault) { return typeOver(e, s.leafType) }

func (s exprScope) leafType(n api.Node) (int, api.Errno) {
	switch n.Op {
	case api.OpGreen, api.OpRed:
		if _, e := s.find(n.Name, api.DeGroup); e != api.OK {
			return 0, e
		}
	case api.OpName:
		return s.worth(n.Name)
	}
	return ruleOf(n.Op).is, api.OK
}

// worth is the type of what a name stands for.
func (s exprScope) worth(name string) (int, api.Errno) {
	symbol, e := s.find(name, api.DeConst, api.DeVar, api.DeTimer, api.DeCounter, api.DeDetector, api.DeCond)
	switch {
	case e != api.OK:
		return 0, e
	case symbol.Kind == api.DeDetector || symbol.Kind == api.DeCond:
		return api.TyBool, api.OK
	}
	return api.TyInt, api.OK
}

// resolved is a well-formed expression, which must be of the type, with its names put in.
func (s exprScope) resolved(e []api.Node, typ int) ([]api.Node, api.Fault) {
	is, fault := s.typeOf(e)
	if fault.Code != api.OK {
		return nil, fault
	}
	root := e[len(e)-1]
	if is != typ {
		return nil, api.Fault{Code: api.ErrType, At: root.At}
	}
	var out []api.Node
	for _, n := range e {
		out = append(out, s.putIn(n)...)
	}
	if len(out) > api.MaxNodes || tree.Nest(out) > api.MaxDepth {
		return nil, api.Fault{Code: api.ErrSize, At: root.At}
	}
	return out, api.Fault{}
}

// putIn is what stands in the place of a node whose name, if it has one, is known to be seen.
func (s exprScope) putIn(n api.Node) []api.Node {
	if n.Name == "" {
		return []api.Node{{Op: n.Op, Val: n.Val}}
	}
	symbol := s.symbols[n.Name]
	number := int32(symbol.Ix)
	switch symbol.Kind {
	case api.DeConst:
		return constant(s.consts[symbol.Ix])
	case api.DeCond:
		return s.conds[symbol.Ix]
	case api.DeVar:
		return []api.Node{{Op: api.OpVar, Val: number}}
	case api.DeTimer:
		return []api.Node{{Op: api.OpTimer, Val: number}}
	case api.DeCounter:
		return []api.Node{{Op: api.OpCounter, Val: number}}
	case api.DeDetector:
		return []api.Node{{Op: api.OpDet, Val: number}}
	}
	return []api.Node{{Op: n.Op, Val: number}}
}

// constant is a number as it could be written: there is none below 0 without its sign.
func constant(value int32) []api.Node {
	if value < 0 {
		return []api.Node{{Op: api.OpInt, Val: -value}, {Op: api.OpNeg}}
	}
	return []api.Node{{Op: api.OpInt, Val: value}}
}
