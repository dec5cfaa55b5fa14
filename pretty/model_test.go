package pretty_test

// A second way from a plan to its text: the plan's tokens first, then their layout, by what each token is alone. Whether an operand has brackets is asked of the parser.

import (
	"fmt"
	"math/rand"
	"slices"
	"strings"

	"junction/api"
	"junction/lex"
	"junction/tree"
)

var signs = map[int]string{api.OpNeg: "-", api.OpNot: "not", api.OpAbs: "abs", api.OpAdd: "+", api.OpSub: "-", api.OpMul: "*", api.OpDiv: "/", api.OpRem: "%", api.OpMin: "min", api.OpMax: "max", api.OpEq: "==", api.OpNe: "!=", api.OpLt: "<", api.OpLe: "<=", api.OpGt: ">", api.OpGe: ">=", api.OpAnd: "and", api.OpOr: "or"}

var prefixOps = []int{api.OpNeg, api.OpNot, api.OpAbs}

var pairOps = []int{api.OpAdd, api.OpSub, api.OpMul, api.OpDiv, api.OpRem, api.OpMin, api.OpMax, api.OpEq, api.OpNe, api.OpLt, api.OpLe, api.OpGt, api.OpGe, api.OpAnd, api.OpOr}

// operands are those of a tree's root.
func operands(e []api.Node) [][]api.Node {
	last := len(e) - 1
	switch op := e[last].Op; {
	case op < 20:
		return nil
	case op < 30:
		return [][]api.Node{e[:last]}
	}
	cut := tree.Span(e, last-1)
	return [][]api.Node{e[:cut], e[cut:last]}
}

// written are the tokens of a node over those of its operands.
func written(n api.Node, parts [][]string) []string {
	switch {
	case n.Op == api.OpInt:
		return []string{fmt.Sprint(n.Val)}
	case n.Op == api.OpBool:
		return []string{[]string{"false", "true"}[n.Val]}
	case n.Op == api.OpName:
		return []string{n.Name}
	case n.Op == api.OpElapsed:
		return []string{"elapsed"}
	case n.Op == api.OpGreen:
		return []string{"green", "(", n.Name, ")"}
	case n.Op == api.OpRed:
		return []string{"red", "(", n.Name, ")"}
	case n.Op == api.OpAbs:
		return slices.Concat([]string{"abs", "("}, parts[0], []string{")"})
	case n.Op == api.OpMin || n.Op == api.OpMax:
		return slices.Concat([]string{signs[n.Op], "("}, parts[0], []string{","}, parts[1], []string{")"})
	case len(parts) == 1:
		return slices.Concat([]string{signs[n.Op]}, parts[0])
	}
	return slices.Concat(parts[0], []string{signs[n.Op]}, parts[1])
}

func leaf(name string) []api.Node { return []api.Node{{Op: api.OpName, Name: name}} }

// over is an operator over expressions.
func over(op int, parts ...[]api.Node) []api.Node {
	return append(slices.Concat(parts...), api.Node{Op: op})
}

// small is an operator over names.
func small(op int) []api.Node {
	switch {
	case op < 20:
		return leaf("a")
	case op < 30:
		return over(op, leaf("a"))
	}
	return over(op, leaf("a"), leaf("b"))
}

type standing struct{ op, side, under int }

var asked = map[standing]bool{}

// needs is whether an operand on that side of an operator is read as something else without brackets.
func needs(op, side, under int) bool {
	at := standing{op, side, under}
	if known, ok := asked[at]; ok {
		return known
	}
	parts := [][]api.Node{leaf("c"), leaf("d")}
	if op < 30 {
		parts = parts[:1]
	}
	parts[side] = small(under)
	var texts [][]string
	for _, part := range parts {
		var names [][]string
		for _, n := range operands(part) {
			names = append(names, []string{n[0].Name})
		}
		texts = append(texts, written(part[len(part)-1], names))
	}
	got, fault := tree.ParseExpr(strings.Join(written(api.Node{Op: op}, texts), " "))
	asked[at] = fault != (api.Fault{}) || !sameExpr(got, over(op, parts...))
	return asked[at]
}

func planOf(e []api.Node) api.Plan {
	return api.Plan{Name: "p", Decls: []api.Decl{{Kind: api.DeCond, Name: "c", Expr: e}}}
}

func sameExpr(e, f []api.Node) bool { return tree.Same(planOf(e), planOf(f)) }

// lister makes tokens of trees. With a source of noise they are not the fewest that the tree may have.
type lister struct {
	noise *rand.Rand
	out   []string
}

func (l *lister) put(tokens ...string) { l.out = append(l.out, tokens...) }

func (l *lister) maybe() bool { return l.noise != nil && l.noise.Intn(4) == 0 }

func (l *lister) number(n int32) {
	forms := []string{fmt.Sprint(n)}
	if l.noise != nil {
		forms = append(forms, fmt.Sprintf("0%d", n), fmt.Sprintf("0x%X", n), fmt.Sprintf("%dm%ds", n/60, n%60))
		l.noise.Shuffle(len(forms), func(i, j int) { forms[i], forms[j] = forms[j], forms[i] })
	}
	l.put(forms[0])
}

func (l *lister) exprTokens(e []api.Node) []string {
	root := e[len(e)-1]
	var parts [][]string
	for i, o := range operands(e) {
		tokens := l.exprTokens(o)
		if needs(root.Op, i, o[len(o)-1].Op) {
			tokens = inBrackets(tokens)
		}
		parts = append(parts, tokens)
	}
	tokens := written(root, parts)
	for l.maybe() {
		tokens = inBrackets(tokens)
	}
	return tokens
}

func inBrackets(tokens []string) []string {
	return slices.Concat([]string{"("}, tokens, []string{")"})
}

func (l *lister) expr(e []api.Node) { l.put(l.exprTokens(e)...) }

// endOf is where the end of the if at i is.
func endOf(list []api.Stmt, i int) int {
	open := 1
	for open > 0 {
		i++
		switch list[i].Kind {
		case api.StIf:
			open++
		case api.StEnd:
			open--
		}
	}
	return i
}

func (l *lister) stmts(list []api.Stmt) {
	for i := 0; i < len(list); i++ {
		switch s := list[i]; s.Kind {
		case api.StSet:
			l.put(s.Name, "=")
			l.expr(s.Expr)
			l.put(";")
		case api.StIf:
			end := endOf(list, i)
			l.choice(list[i : end+1])
			i = end
		default:
			l.put([]string{"reset", "run", "stop", "count", "clear"}[s.Kind-api.StReset], s.Name, ";")
		}
	}
}

// choice makes the tokens of one whole if.
func (l *lister) choice(list []api.Stmt) {
	open, middle, last := 0, 0, len(list)-1
	for i, s := range list {
		switch {
		case s.Kind == api.StIf:
			open++
		case s.Kind == api.StEnd:
			open--
		case s.Kind == api.StElse && open == 1:
			middle = i
		}
	}
	l.put("if")
	l.expr(list[0].Expr)
	if middle == 0 {
		l.block(list[1:last])
		return
	}
	l.block(list[1:middle])
	l.put("else")
	rest := list[middle+1 : last]
	if len(rest) > 0 && rest[0].Kind == api.StIf && endOf(rest, 0) == len(rest)-1 && !l.maybe() {
		l.choice(rest)
		return
	}
	l.block(rest)
}

func (l *lister) block(list []api.Stmt) {
	l.put("{")
	l.stmts(list)
	l.put("}")
}

func (l *lister) blockIf(word string, list []api.Stmt) {
	if len(list) > 0 || l.maybe() {
		l.put(word)
		l.block(list)
	}
}

func (l *lister) option(word string, n int32) {
	if n != 0 || l.maybe() {
		l.put(word)
		l.number(n)
	}
}

func (l *lister) stage(s api.Stage) {
	l.put("{", "green")
	for i, name := range s.Green {
		if i > 0 {
			l.put(",")
		}
		l.put(name)
	}
	l.put(";")
	l.blockIf("enter", s.Enter)
	l.blockIf("during", s.During)
	l.blockIf("leave", s.Leave)
	for _, n := range s.Nexts {
		l.put("next", n.To, "when")
		l.expr(n.When)
		l.put(";")
	}
	l.put("}")
}

func (l *lister) decl(d api.Decl) {
	l.put([]string{"const", "group", "conflict", "detector", "timer", "counter", "var", "cond", "stage", "start"}[d.Kind-1], d.Name)
	switch d.Kind {
	case api.DeConst, api.DeVar:
		l.put("=")
		if d.N[0] < 0 || d.N[0] == 0 && l.maybe() {
			l.put("-")
		}
		l.number(max(d.N[0], -d.N[0]))
	case api.DeGroup:
		l.put([]string{"vehicle", "pedestrian"}[d.Sort-1], "min")
		l.number(d.N[0])
		l.put("amber")
		l.number(d.N[1])
		l.option("lead", d.N[2])
	case api.DeConflict:
		l.put(d.With)
		l.number(d.N[0])
		l.number(d.N[1])
	case api.DeDetector:
		if d.Sort == 1 {
			l.put("latch")
		}
		l.option("delay", d.N[0])
		l.option("hold", d.N[1])
	case api.DeCond:
		l.put("=")
		l.expr(d.Expr)
	case api.DeStage:
		l.stage(d.Stage)
		return
	}
	l.put(";")
}

// tokensOf are the tokens of a plan: without noise the fewest.
func tokensOf(p api.Plan, noise *rand.Rand) []string {
	l := lister{noise: noise}
	l.put("plan", p.Name, "{")
	for _, d := range p.Decls {
		l.decl(d)
	}
	l.put("}")
	return l.out
}

// endsOperand is whether a - behind that token stands between two operands.
func endsOperand(token string) bool {
	k := lex.KindOf(token)
	return k == api.TkName || k == api.TkNumber || slices.Contains([]string{"true", "false", "elapsed", ")"}, token)
}

// apart is whether a blank stands between a token and the next one of its line.
func apart(before, token, next string) bool {
	switch {
	case next == ";" || next == "," || next == ")" || token == "(":
		return false
	case next == "(":
		return !slices.Contains([]string{"green", "red", "min", "max", "abs"}, token) && (token != "-" || endsOperand(before))
	case token == "-":
		return endsOperand(before)
	}
	return true
}

// layout lays the tokens of a plan, or of an expression, out as the one text.
func layout(tokens []string) string {
	var text strings.Builder
	depth, before := 0, ""
	fresh := false
	for i, token := range tokens {
		if token == "}" {
			depth--
		}
		if fresh {
			text.WriteString(strings.Repeat("\t", depth))
		}
		if token == "{" {
			depth++
		}
		text.WriteString(token)
		next := ""
		if i+1 < len(tokens) {
			next = tokens[i+1]
		}
		fresh = token == ";" || token == "{" || token == "}" && next != "else"
		if fresh {
			text.WriteString("\n")
		} else if next != "" && apart(before, token, next) {
			text.WriteString(" ")
		}
		before = token
	}
	return text.String()
}

// modelPrint is the text of a well-formed plan.
func modelPrint(p api.Plan) string { return layout(tokensOf(p, nil)) }

// modelExpr is the text of a well-formed expression.
func modelExpr(e []api.Node) string {
	l := lister{}
	return layout(l.exprTokens(e))
}

// scattered lays tokens out in any way that keeps them apart.
func scattered(r *rand.Rand, tokens []string) string {
	gaps := []string{" ", "  ", "\t", "\n", "\r\n", "# x = (1; {\n", "\n\n #\xff\n "}
	text := ""
	for i, token := range tokens {
		if i == 0 || r.Intn(3) == 0 || !partsItself(tokens[i-1], token) {
			text += gaps[r.Intn(len(gaps))]
		}
		text += token
	}
	return text + []string{"", " ", "\n", "# end"}[r.Intn(4)]
}

// partsItself is whether two tokens are two without a gap between them.
func partsItself(token, next string) bool {
	isWord := func(c byte) bool { return strings.IndexByte("{}(),;=!<>+-*/%", c) < 0 }
	return !(isWord(token[len(token)-1]) && isWord(next[0])) && next[0] != '='
}
