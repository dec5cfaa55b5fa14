package tree

import "junction/api"

// The levels of precedence, the loosest first.
const (
	levelOr = 1 + iota
	levelAnd
	levelNot
	levelRelation
	levelSum
	levelProduct
	levelNegation
	levelPrimary
)

func (r *reader) wholeExpression() []api.Node {
	nodes := r.expression()
	r.take(api.TkEnd)
	return nodes
}

// expression begins the counts anew: what stands in its brackets must be read through the levels instead.
func (r *reader) expression() []api.Node {
	r.nodes, r.made, r.open = nil, 0, 0
	r.levels[levelOr]()
	return r.nodes
}

func (r *reader) or() { r.chain(levelAnd, api.TkOr) }

func (r *reader) and() { r.chain(levelNot, api.TkAnd) }

func (r *reader) not() { r.prefix(api.TkNot, api.OpNot, levelNot) }

// relation reads one sign at most: relations are not chained.
func (r *reader) relation() {
	signs := []int{api.TkEq, api.TkNe, api.TkLt, api.TkLe, api.TkGt, api.TkGe}
	r.levels[levelSum]()
	if r.sees(signs...) {
		r.infix(r.take(signs...), levelSum)
	}
}

func (r *reader) sum() { r.chain(levelProduct, api.TkPlus, api.TkMinus) }

func (r *reader) product() { r.chain(levelNegation, api.TkStar, api.TkSlash, api.TkPercent) }

func (r *reader) negation() { r.prefix(api.TkMinus, api.OpNeg, levelNegation) }

// chain reads operands of a level with signs between them, grouped from the left.
func (r *reader) chain(level int, signs ...int) {
	r.levels[level]()
	for r.sees(signs...) {
		r.infix(r.take(signs...), level)
	}
}

// infix reads the second operand, behind the sign, and lays the node of both.
func (r *reader) infix(sign api.Token, level int) {
	r.countNode(sign)
	r.levels[level]()
	r.nodes = append(r.nodes, api.Node{Op: infixOp(sign.Kind), At: sign.At})
}

// infixOp leans on api's order: the signs from == to >=, and those from + to %, stand as their operators do.
func infixOp(kind int) int {
	switch {
	case kind == api.TkOr:
		return api.OpOr
	case kind == api.TkAnd:
		return api.OpAnd
	case kind <= api.TkGe:
		return kind - api.TkEq + api.OpEq
	}
	return kind - api.TkPlus + api.OpAdd
}

// prefix reads an operand of its own level behind a prefix, or without one what the next level reads.
func (r *reader) prefix(kind, op, level int) {
	if !r.sees(kind) {
		r.levels[level+1]()
		return
	}
	sign := r.take(kind)
	r.opens(sign)
	r.countNode(sign)
	r.levels[level]()
	r.open--
	r.nodes = append(r.nodes, api.Node{Op: op, At: sign.At})
}

func (r *reader) primary() {
	if r.sees(api.TkLeft) {
		r.bracket(1)
		return
	}
	t := r.take(api.TkNumber, api.TkTrue, api.TkFalse, api.TkElapsed, api.TkName, api.TkGreen, api.TkRed, api.TkMin, api.TkMax, api.TkAbs)
	r.countNode(t)
	n := api.Node{At: t.At}
	switch t.Kind {
	case api.TkNumber:
		n.Op, n.Val = api.OpInt, t.Num
	case api.TkTrue:
		n.Op, n.Val = api.OpBool, 1
	case api.TkFalse:
		n.Op = api.OpBool
	case api.TkElapsed:
		n.Op = api.OpElapsed
	case api.TkName:
		n.Op, n.Name = api.OpName, t.Text
	case api.TkGreen:
		n.Op, n.Name = api.OpGreen, r.bracketedName()
	case api.TkRed:
		n.Op, n.Name = api.OpRed, r.bracketedName()
	case api.TkMin:
		n.Op = api.OpMin
		r.bracket(2)
	case api.TkMax:
		n.Op = api.OpMax
		r.bracket(2)
	case api.TkAbs:
		n.Op = api.OpAbs
		r.bracket(1)
	}
	r.nodes = append(r.nodes, n)
}

// bracket reads so many expressions in brackets, with commas between them.
func (r *reader) bracket(count int) {
	r.opens(r.take(api.TkLeft))
	r.levels[levelOr]()
	for range count - 1 {
		r.take(api.TkComma)
		r.levels[levelOr]()
	}
	r.take(api.TkRight)
	r.open--
}

// bracketedName reads a group's name, whose brackets do not count as open.
func (r *reader) bracketedName() string {
	r.take(api.TkLeft)
	name := r.name()
	r.take(api.TkRight)
	return name
}

// opens counts a bracket or a prefix; whoever has read it to its end takes it away again.
func (r *reader) opens(t api.Token) {
	if r.open == api.MaxDepth {
		giveUp(api.ErrDeep, t)
	}
	r.open++
}

func (r *reader) countNode(t api.Token) {
	if r.made == api.MaxNodes {
		giveUp(api.ErrNodes, t)
	}
	r.made++
}
