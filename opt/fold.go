package opt

import (
	"junction/api"
	"junction/arith"
)

// fold makes each node of a sound expression anew, operands first.
func fold(e []api.Node, k *api.Known) *term {
	return walk(e, func(n api.Node, operands []*term) *term {
		switch len(operands) {
		case 1:
			return makeOne(n.Op, operands[0])
		case 2:
			return makeTwo(n.Op, operands[0], operands[1])
		}
		return foldLeaf(n, k)
	})
}

func foldLeaf(n api.Node, k *api.Known) *term {
	is := spanOfLeaf(n, k)
	switch {
	case !is.single():
		return leaf(n, is)
	case n.Op == api.OpInt || n.Op == api.OpVar:
		return number(int32(is.lo))
	}
	return truth(int32(is.lo))
}

// makeOne is what becomes of an operator over a folded operand.
func makeOne(op int, a *term) *term {
	is := spanOfOne(op, a.is)
	if is.single() {
		return word(op, int32(is.lo))
	}
	if t := smallerOne(op, a); t != nil {
		return t
	}
	return &term{node: api.Node{Op: op}, first: a, is: is, size: a.size + 1}
}

// makeTwo is what becomes of an operator over two folded operands.
func makeTwo(op int, a, b *term) *term {
	is := spanOfTwo(op, a.is, b.is)
	if is.single() {
		return word(op, int32(is.lo))
	}
	if a.known() && !b.known() && mayTurn(op) {
		return makeTwo(mirrored(op), b, a)
	}
	if t := smallerTwo(op, a, b); t != nil {
		return t
	}
	return &term{node: api.Node{Op: op}, first: a, second: b, is: is, size: a.size + b.size + 1}
}

// mayTurn tells whether the operands of an operator, mirrored if it is a relation, may change their places.
func mayTurn(op int) bool { return op != api.OpSub && op != api.OpDiv && op != api.OpRem }

func mirrored(op int) int {
	switch op {
	case api.OpLt:
		return api.OpGt
	case api.OpGt:
		return api.OpLt
	case api.OpLe:
		return api.OpGe
	case api.OpGe:
		return api.OpLe
	}
	return op
}

func opposed(relation int) int {
	switch relation {
	case api.OpEq:
		return api.OpNe
	case api.OpNe:
		return api.OpEq
	case api.OpLt:
		return api.OpGe
	case api.OpGe:
		return api.OpLt
	case api.OpGt:
		return api.OpLe
	}
	return api.OpGt
}

// denied is the opposite of a truth; nil, where it would need a node more.
func denied(a *term) *term {
	switch {
	case a.node.Op == api.OpNot:
		return a.first
	case a.isRelation():
		return makeTwo(opposed(a.node.Op), a.first, a.second)
	}
	return nil
}

// smallerOne is what one of the rules for an operator of one operand makes of it; nil, if none holds.
func smallerOne(op int, a *term) *term {
	switch {
	case op == api.OpNot:
		return denied(a)
	case op == api.OpNeg && a.node.Op == api.OpNeg:
		return a.first
	case op == api.OpAbs && (a.is.lo >= 0 || a.node.Op == api.OpAbs):
		return a
	case op == api.OpAbs && a.node.Op == api.OpNeg:
		return makeOne(op, a.first)
	}
	return nil
}

// smallerTwo is the same of two operands.
func smallerTwo(op int, a, b *term) *term {
	if a.equals(b) {
		if t := ofEqual(op, a); t != nil {
			return t
		}
	}
	switch op {
	case api.OpAdd:
		return smallerSum(a, b)
	case api.OpSub:
		return smallerDifference(a, b)
	case api.OpMul:
		return smallerProduct(a, b)
	case api.OpDiv:
		if b.isKnown(1) {
			return a
		}
	case api.OpRem:
		return smallerRemainder(a, b)
	case api.OpMin, api.OpMax:
		return smallerChoice(op, a, b)
	case api.OpEq, api.OpNe:
		return smallerEquality(op, a, b)
	case api.OpAnd, api.OpOr:
		return smallerAndOr(op, a, b)
	}
	return nil
}

// ofEqual is what an operator makes of a term and the same term.
func ofEqual(op int, a *term) *term {
	switch op {
	case api.OpSub, api.OpRem, api.OpNe, api.OpLt, api.OpGt:
		return word(op, 0)
	case api.OpEq, api.OpLe, api.OpGe:
		return word(op, 1)
	case api.OpAnd, api.OpOr, api.OpMin, api.OpMax:
		return a
	}
	return nil
}

func smallerSum(a, b *term) *term {
	if b.isKnown(0) {
		return a
	}
	if b.known() {
		if x, d, ok := a.withKnown(api.OpAdd); ok {
			return makeTwo(api.OpAdd, x, number(d+b.word()))
		}
	}
	switch {
	case b.node.Op == api.OpNeg:
		return makeTwo(api.OpSub, a, b.first)
	case a.node.Op == api.OpNeg:
		return makeTwo(api.OpSub, b, a.first)
	}
	return nil
}

func smallerDifference(a, b *term) *term {
	switch {
	case b.known():
		return makeTwo(api.OpAdd, a, number(-b.word()))
	case b.node.Op == api.OpNeg:
		return makeTwo(api.OpAdd, a, b.first)
	}
	return nil
}

func smallerProduct(a, b *term) *term {
	if b.isKnown(1) {
		return a
	}
	if b.known() {
		if x, d, ok := a.withKnown(api.OpMul); ok {
			return makeTwo(api.OpMul, x, number(d*b.word()))
		}
	}
	return nil
}

func smallerRemainder(a, b *term) *term {
	if b.known() && b.word() != 0 && a.is.lo >= 0 && a.is.hi <= greatestRemainder(b.is.lo) {
		return a
	}
	return nil
}

// smallerChoice is of the lesser or the greater of two.
func smallerChoice(op int, a, b *term) *term {
	isFirst, isSecond := a.is.hi <= b.is.lo, b.is.hi <= a.is.lo
	if op == api.OpMax {
		isFirst, isSecond = isSecond, isFirst
	}
	switch {
	case isFirst:
		return a
	case isSecond:
		return b
	case b.known():
		if x, d, ok := a.withKnown(op); ok {
			w, _ := arith.Binary(op, d, b.word())
			return makeTwo(op, x, number(w))
		}
	}
	return nil
}

func smallerEquality(op int, a, b *term) *term {
	switch {
	case !b.known():
		return nil
	case b.node.Op == api.OpBool:
		return smallerTruth(op, a, b.word())
	case a.node.Op == api.OpNeg:
		return makeTwo(op, a.first, number(-b.word()))
	}
	if x, d, ok := a.withKnown(api.OpAdd); ok {
		return makeTwo(op, x, number(b.word()-d))
	}
	return nil
}

// smallerTruth is of a truth that is held against a known one: it is that truth, or its opposite.
func smallerTruth(op int, a *term, w int32) *term {
	switch {
	case (op == api.OpEq) == (w == 1):
		return a
	case op == api.OpNe:
		return makeTwo(api.OpEq, a, truth(0))
	}
	return denied(a)
}

func smallerAndOr(op int, a, b *term) *term {
	switch {
	case op == api.OpAnd && b.isKnown(1), op == api.OpOr && b.isKnown(0):
		return a
	case !areOpposites(a, b):
		return nil
	case op == api.OpAnd:
		return truth(0)
	}
	return truth(1)
}

// areOpposites tells whether it is plain to see that just one of two truths is true.
func areOpposites(a, b *term) bool {
	switch {
	case a.node.Op == api.OpNot && a.first.equals(b), b.node.Op == api.OpNot && b.first.equals(a):
		return true
	case !a.isRelation() || b.node.Op != opposed(a.node.Op):
		return false
	}
	return a.first.equals(b.first) && a.second.equals(b.second)
}
