package pretty

import (
	"junction/api"
	"junction/arith"
)

// The levels of precedence, the loosest first.
const (
	levelOr = 1 + iota
	levelAnd
	levelNot
	levelRelation
	levelSum
	levelProduct
	levelNegation
	levelPrimary
)

// The kinds of nodes, those that are written alike together.
type (
	integer  int32
	truth    bool
	named    string
	elapsed  struct{}
	aspect   struct{ word, group string }
	negation struct{ under printable }
	not      struct{ under printable }
	absolute struct{ under printable }
	pick     struct {
		word          string
		first, second printable
	}
	infix struct {
		first  printable
		sign   string
		second printable
	}

	// bracketed is no node's kind, but an operand that would be read otherwise without the brackets.
	bracketed struct{ under printable }
)

func (n integer) printTo(out *printer) { out.add(arith.Text(int32(n))) }

func (n truth) printTo(out *printer) {
	if n {
		out.add("true")
	} else {
		out.add("false")
	}
}

func (n named) printTo(out *printer) { out.add(string(n)) }

func (n elapsed) printTo(out *printer) { out.add("elapsed") }

func (n aspect) printTo(out *printer) { out.add(n.word, "(", n.group, ")") }

func (n negation) printTo(out *printer) {
	out.add("-")
	n.under.printTo(out)
}

func (n not) printTo(out *printer) {
	out.add("not ")
	n.under.printTo(out)
}

func (n absolute) printTo(out *printer) {
	out.add("abs(")
	n.under.printTo(out)
	out.add(")")
}

func (n pick) printTo(out *printer) {
	out.add(n.word, "(")
	n.first.printTo(out)
	out.add(", ")
	n.second.printTo(out)
	out.add(")")
}

func (n infix) printTo(out *printer) {
	n.first.printTo(out)
	out.add(" ", n.sign, " ")
	n.second.printTo(out)
}

func (n bracketed) printTo(out *printer) {
	out.add("(")
	n.under.printTo(out)
	out.add(")")
}

// signs holds how each operator that stands between its operands is written, at its number.
var signs = [...]string{
	api.OpAdd: "+", api.OpSub: "-", api.OpMul: "*", api.OpDiv: "/", api.OpRem: "%",
	api.OpEq: "==", api.OpNe: "!=", api.OpLt: "<", api.OpLe: "<=", api.OpGt: ">", api.OpGe: ">=",
	api.OpAnd: "and", api.OpOr: "or",
}

// expressionText takes a well-formed expression alone.
func expressionText(e []api.Node) string {
	var out printer
	expression(e).printTo(&out)
	return out.text.String()
}

// expression hangs the operands of each node on it: the list that is handed in is flat.
func expression(e []api.Node) printable {
	var waiting []operand
	for _, n := range e {
		rest := len(waiting) - arith.Arity(n.Op)
		o := node(n, waiting[rest:])
		waiting = append(waiting[:rest], o)
	}
	return waiting[0].printable
}

// operand is an expression that waits for the node above it.
type operand struct {
	printable
	level int
}

// at is the operand as it is written where that level is asked for.
func (o operand) at(level int) printable {
	if o.level < level {
		return bracketed{o.printable}
	}
	return o.printable
}

func node(n api.Node, operands []operand) operand {
	switch n.Op {
	case api.OpInt:
		return operand{integer(n.Val), levelPrimary}
	case api.OpBool:
		return operand{truth(n.Val == 1), levelPrimary}
	case api.OpName:
		return operand{named(n.Name), levelPrimary}
	case api.OpElapsed:
		return operand{elapsed{}, levelPrimary}
	case api.OpGreen:
		return operand{aspect{"green", n.Name}, levelPrimary}
	case api.OpRed:
		return operand{aspect{"red", n.Name}, levelPrimary}
	case api.OpNeg:
		return operand{negation{operands[0].at(levelNegation)}, levelNegation}
	case api.OpNot:
		return operand{not{operands[0].at(levelNot)}, levelNot}
	case api.OpAbs:
		return operand{absolute{operands[0].at(levelOr)}, levelPrimary}
	case api.OpMin:
		return operand{pick{"min", operands[0].at(levelOr), operands[1].at(levelOr)}, levelPrimary}
	case api.OpMax:
		return operand{pick{"max", operands[0].at(levelOr), operands[1].at(levelOr)}, levelPrimary}
	}
	return joined(n.Op, operands[0], operands[1])
}

// joined is an operator that stands between its operands. A second operand of its own level has brackets, as signs group from the left; of a relation the first one too, as relations are not chained.
func joined(op int, first, second operand) operand {
	level := levelOf(op)
	least := level
	if level == levelRelation {
		least++
	}
	return operand{infix{first.at(least), signs[op], second.at(level + 1)}, level}
}

// levelOf takes an operator that stands between its operands.
func levelOf(op int) int {
	switch op {
	case api.OpOr:
		return levelOr
	case api.OpAnd:
		return levelAnd
	case api.OpAdd, api.OpSub:
		return levelSum
	case api.OpMul, api.OpDiv, api.OpRem:
		return levelProduct
	}
	return levelRelation
}
