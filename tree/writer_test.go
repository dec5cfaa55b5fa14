package tree_test

// Plans at random, and a writer that lays a plan out as text at random and knows the place of everything in it.

import (
	"fmt"
	"math/rand"
	"strings"

	"junction/api"
)

// levels and asked are chapter 3's tables of precedence.
var levels = map[int]int{api.OpOr: 1, api.OpAnd: 2, api.OpNot: 3, api.OpEq: 4, api.OpNe: 4, api.OpLt: 4, api.OpLe: 4, api.OpGt: 4, api.OpGe: 4, api.OpAdd: 5, api.OpSub: 5, api.OpMul: 6, api.OpDiv: 6, api.OpRem: 6, api.OpNeg: 7}

var asked = map[int][2]int{api.OpOr: {1, 2}, api.OpAnd: {2, 3}, api.OpNot: {3}, api.OpEq: {5, 5}, api.OpNe: {5, 5}, api.OpLt: {5, 5}, api.OpLe: {5, 5}, api.OpGt: {5, 5}, api.OpGe: {5, 5}, api.OpAdd: {5, 6}, api.OpSub: {5, 6}, api.OpMul: {6, 7}, api.OpDiv: {6, 7}, api.OpRem: {6, 7}, api.OpNeg: {7}, api.OpAbs: {1}, api.OpMin: {1, 1}, api.OpMax: {1, 1}}

var signs = map[int]string{api.OpElapsed: "elapsed", api.OpGreen: "green", api.OpRed: "red", api.OpNeg: "-", api.OpNot: "not", api.OpAbs: "abs", api.OpAdd: "+", api.OpSub: "-", api.OpMul: "*", api.OpDiv: "/", api.OpRem: "%", api.OpMin: "min", api.OpMax: "max", api.OpEq: "==", api.OpNe: "!=", api.OpLt: "<", api.OpLe: "<=", api.OpGt: ">", api.OpGe: ">=", api.OpAnd: "and", api.OpOr: "or"}

func level(op int) int {
	if l := levels[op]; l > 0 {
		return l
	}
	return 8
}

// operands is how many an Op has, -1 for what is none.
func operands(op int) int {
	switch {
	case op >= 1 && op <= 10:
		return 0
	case op >= 20 && op <= 22:
		return 1
	case op >= 30 && op <= 36, op >= 40 && op <= 45, op == 50, op == 51:
		return 2
	}
	return -1
}

// knot is a node with its operands hanging on it.
type knot struct {
	node api.Node
	kids []*knot
}

// knotOf hangs the nodes of a list that is one tree on one another.
func knotOf(e []api.Node) *knot {
	var list []*knot
	for _, n := range e {
		first := len(list) - operands(n.Op)
		k := &knot{n, append([]*knot(nil), list[first:]...)}
		list = append(list[:first], k)
	}
	return list[0]
}

type writer struct {
	r     *rand.Rand
	extra bool // brackets that are not needed, elses in other forms
	tight bool // one blank at most
	text  strings.Builder
	here  api.Pos
	last  byte
}

func newWriter(r *rand.Rand) *writer {
	return &writer{r: r, extra: true, here: at(1, 1), last: ' '}
}

func (w *writer) raw(s string) {
	for i := range len(s) {
		w.here.Col++
		if s[i] == '\n' {
			w.here = at(w.here.Line+1, 1)
		}
		w.last = s[i]
	}
	w.text.WriteString(s)
}

func isWordByte(c byte) bool {
	return c == '_' || c >= '0' && c <= '9' || c >= 'a' && c <= 'z' || c >= 'A' && c <= 'Z'
}

// put writes a token and tells its place.
func (w *writer) put(token string) api.Pos {
	between := ""
	if !w.tight {
		between = []string{"", "", " ", "  ", "\t", "\n", "\r\n", "# x = 1; (\n", "\n\n #\xff\n "}[w.r.Intn(9)]
	}
	if between == "" && (isWordByte(w.last) && isWordByte(token[0]) || strings.IndexByte("=!<>", w.last) >= 0 && token[0] == '=') {
		between = " "
	}
	w.raw(between)
	place := w.here
	w.raw(token)
	return place
}

func (w *writer) puts(tokens ...string) {
	for _, t := range tokens {
		w.put(t)
	}
}

func (w *writer) maybe() bool { return w.extra && w.r.Intn(5) == 0 }

// number writes a number in one of its forms.
func (w *writer) number(n int32) api.Pos {
	forms := []string{fmt.Sprint(n), fmt.Sprint(n), fmt.Sprintf("0%d", n), fmt.Sprintf("0x%x", n), fmt.Sprintf("0x0_%X", n), fmt.Sprintf("%ds", n), fmt.Sprintf("%dm%ds", n/60, n%60), fmt.Sprintf("%dh%ds", n/3600, n%3600)}
	return w.put(forms[w.r.Intn(len(forms))])
}

// knot writes an expression where that level is asked for and adds its nodes, with their places, to a list.
func (w *writer) knot(k *knot, ask int, out *[]api.Node) {
	brackets := 0
	if level(k.node.Op) < ask {
		brackets++
	}
	for w.maybe() {
		brackets++
	}
	for range brackets {
		w.put("(")
	}
	w.within(k, out)
	for range brackets {
		w.put(")")
	}
}

func (w *writer) within(k *knot, out *[]api.Node) {
	n, ask := k.node, asked[k.node.Op]
	switch {
	case n.Op == api.OpInt:
		n.At = w.number(n.Val)
	case n.Op == api.OpBool:
		n.At = w.put([]string{"false", "true"}[n.Val])
	case n.Op == api.OpName:
		n.At = w.put(n.Name)
	case n.Op == api.OpElapsed:
		n.At = w.put("elapsed")
	case n.Op == api.OpGreen || n.Op == api.OpRed:
		n.At = w.put(signs[n.Op])
		w.puts("(", n.Name, ")")
	case n.Op == api.OpNeg || n.Op == api.OpNot:
		n.At = w.put(signs[n.Op])
		w.knot(k.kids[0], ask[0], out)
	case level(n.Op) == 8:
		n.At = w.put(signs[n.Op])
		w.put("(")
		for i, kid := range k.kids {
			if i > 0 {
				w.put(",")
			}
			w.knot(kid, ask[i], out)
		}
		w.put(")")
	default:
		w.knot(k.kids[0], ask[0], out)
		n.At = w.put(signs[n.Op])
		w.knot(k.kids[1], ask[1], out)
	}
	*out = append(*out, n)
}

// expr writes an expression and answers it with its places.
func (w *writer) expr(e []api.Node) []api.Node {
	var out []api.Node
	w.knot(knotOf(e), 1, &out)
	return out
}

// matching is where the end of the if at i is.
func matching(list []api.Stmt, i int) int {
	for open := 0; ; i++ {
		switch list[i].Kind {
		case api.StIf:
			open++
		case api.StEnd:
			open--
		}
		if open == 0 {
			return i
		}
	}
}

// stmts writes from i on as far as the block goes, lays the places into the list, and tells where it stopped.
func (w *writer) stmts(list []api.Stmt, i int) int {
	for i < len(list) && list[i].Kind != api.StElse && list[i].Kind != api.StEnd {
		s := &list[i]
		switch s.Kind {
		case api.StIf:
			i = w.choice(list, i)
			continue
		case api.StSet:
			s.At = w.put(s.Name)
			w.put("=")
			s.Expr = w.expr(s.Expr)
		default:
			s.At = w.put([]string{"reset", "run", "stop", "count", "clear"}[s.Kind-api.StReset])
			w.put(s.Name)
		}
		w.put(";")
		i++
	}
	return i
}

// choice writes an if and tells where its end is, and one more.
func (w *writer) choice(list []api.Stmt, i int) int {
	list[i].At = w.put("if")
	list[i].Expr = w.expr(list[i].Expr)
	w.put("{")
	i = w.stmts(list, i+1)
	last := w.put("}")
	if list[i].Kind == api.StElse {
		list[i].At = w.put("else")
		if list[i+1].Kind == api.StIf && list[matching(list, i+1)+1].Kind == api.StEnd && w.r.Intn(3) > 0 {
			i = w.choice(list, i+1)
			last = list[i-1].At
		} else {
			w.put("{")
			i = w.stmts(list, i+1)
			last = w.put("}")
		}
	}
	list[i].At = last
	return i + 1
}

// block writes a block behind its word; without statements it may be left out.
func (w *writer) block(word string, list []api.Stmt) []api.Stmt {
	list = append([]api.Stmt(nil), list...)
	if len(list) > 0 || w.maybe() {
		w.puts(word, "{")
		w.stmts(list, 0)
		w.put("}")
	}
	return list
}

func (w *writer) stage(s api.Stage) api.Stage {
	w.puts("{", "green")
	for i, g := range s.Green {
		if i > 0 {
			w.put(",")
		}
		w.put(g)
	}
	w.put(";")
	s.Enter = w.block("enter", s.Enter)
	s.During = w.block("during", s.During)
	s.Leave = w.block("leave", s.Leave)
	s.Nexts = append([]api.Next(nil), s.Nexts...)
	for i := range s.Nexts {
		n := &s.Nexts[i]
		n.At = w.put("next")
		w.puts(n.To, "when")
		n.When = w.expr(n.When)
		w.put(";")
	}
	w.put("}")
	return s
}

// option writes a word with its number; 0 may be left out.
func (w *writer) option(word string, n int32) {
	if n != 0 || w.maybe() {
		w.put(word)
		w.number(n)
	}
}

func (w *writer) decl(d api.Decl) api.Decl {
	d.At = w.put([]string{"const", "group", "conflict", "detector", "timer", "counter", "var", "cond", "stage", "start"}[d.Kind-1])
	w.put(d.Name)
	switch d.Kind {
	case api.DeConst, api.DeVar:
		w.put("=")
		if d.N[0] < 0 || d.N[0] == 0 && w.maybe() {
			w.put("-")
		}
		w.number(max(d.N[0], -d.N[0]))
	case api.DeGroup:
		w.puts([]string{"vehicle", "pedestrian"}[d.Sort-1], "min")
		w.number(d.N[0])
		w.put("amber")
		w.number(d.N[1])
		w.option("lead", d.N[2])
	case api.DeConflict:
		w.put(d.With)
		w.number(d.N[0])
		w.number(d.N[1])
	case api.DeDetector:
		if d.Sort == 1 {
			w.put("latch")
		}
		w.option("delay", d.N[0])
		w.option("hold", d.N[1])
	case api.DeCond:
		w.put("=")
		d.Expr = w.expr(d.Expr)
	case api.DeStage:
		d.Stage = w.stage(d.Stage)
		return d
	}
	w.put(";")
	return d
}

// decls writes declarations and answers them with their places.
func (w *writer) decls(list []api.Decl) []api.Decl {
	var out []api.Decl
	for _, d := range list {
		out = append(out, w.decl(d))
	}
	return out
}

// plan writes a plan and answers it with its places.
func (w *writer) plan(p api.Plan) api.Plan {
	w.puts("plan", p.Name, "{")
	p.Decls = w.decls(p.Decls)
	w.put("}")
	w.raw([]string{"", " ", "\n", "# done"}[w.r.Intn(4)])
	return p
}

func someName(r *rand.Rand) string {
	return []string{"a", "b", "main", "Min", "x_1", "greens", "h", "e5", strings.Repeat("N", 32)}[r.Intn(9)]
}

func someWord(r *rand.Rand) int32 {
	return []int32{0, 1, 2, 7, 59, 61, 3600, 3661, 65536, 2147483647, r.Int31()}[r.Intn(11)]
}

var leafOps = []int{api.OpInt, api.OpBool, api.OpName, api.OpElapsed, api.OpGreen, api.OpRed}
var oneOps = []int{api.OpNeg, api.OpNot, api.OpAbs}
var twoOps = []int{api.OpAdd, api.OpSub, api.OpMul, api.OpDiv, api.OpRem, api.OpMin, api.OpMax, api.OpEq, api.OpNe, api.OpLt, api.OpLe, api.OpGt, api.OpGe, api.OpAnd, api.OpOr}

func someLeaf(r *rand.Rand) api.Node {
	n := api.Node{Op: leafOps[r.Intn(len(leafOps))]}
	switch n.Op {
	case api.OpInt:
		n.Val = someWord(r)
	case api.OpBool:
		n.Val = r.Int31n(2)
	case api.OpName, api.OpGreen, api.OpRed:
		n.Name = someName(r)
	}
	return n
}

// someExpr is an expression of so many nodes.
func someExpr(r *rand.Rand, nodes int) []api.Node {
	if nodes == 1 {
		return []api.Node{someLeaf(r)}
	}
	if nodes == 2 || r.Intn(4) == 0 {
		return append(someExpr(r, nodes-1), api.Node{Op: oneOps[r.Intn(len(oneOps))]})
	}
	first := 1 + r.Intn(nodes-2)
	e := append(someExpr(r, first), someExpr(r, nodes-1-first)...)
	return append(e, api.Node{Op: twoOps[r.Intn(len(twoOps))]})
}

func shortExpr(r *rand.Rand) []api.Node { return someExpr(r, 1+r.Intn(9)) }

// someStmts are up to so many statements, ifs within one another up to that depth.
func someStmts(r *rand.Rand, most, depth int) []api.Stmt {
	var list []api.Stmt
	for range r.Intn(most + 1) {
		switch k := r.Intn(9); {
		case k < 2:
			list = append(list, api.Stmt{Kind: api.StSet, Name: someName(r), Expr: shortExpr(r)})
		case k < 5 && depth > 0:
			list = append(list, api.Stmt{Kind: api.StIf, Expr: shortExpr(r)})
			list = append(list, someStmts(r, most, depth-1)...)
			if r.Intn(2) == 0 {
				list = append(list, api.Stmt{Kind: api.StElse})
				list = append(list, someStmts(r, most, depth-1)...)
			}
			list = append(list, api.Stmt{Kind: api.StEnd})
		default:
			list = append(list, api.Stmt{Kind: api.StReset + r.Intn(5), Name: someName(r)})
		}
	}
	return list
}

func someStage(r *rand.Rand) api.Stage {
	s := api.Stage{Enter: someStmts(r, 3, 3), During: someStmts(r, 1, 5), Leave: someStmts(r, 2, 2)}
	for range r.Intn(4) {
		s.Green = append(s.Green, someName(r))
	}
	for range r.Intn(4) {
		s.Nexts = append(s.Nexts, api.Next{To: someName(r), When: shortExpr(r)})
	}
	return s
}

func someDecl(r *rand.Rand, kind int) api.Decl {
	d := api.Decl{Kind: kind, Name: someName(r)}
	switch kind {
	case api.DeConst, api.DeVar:
		d.N[0] = someWord(r) * (1 - 2*r.Int31n(2))
	case api.DeGroup:
		d.Sort, d.N = 1+r.Intn(2), [3]int32{someWord(r), someWord(r), someWord(r)}
	case api.DeConflict:
		d.With, d.N = someName(r), [3]int32{someWord(r), someWord(r)}
	case api.DeDetector:
		d.Sort, d.N = r.Intn(2), [3]int32{someWord(r), someWord(r)}
	case api.DeCond:
		d.Expr = shortExpr(r)
	case api.DeStage:
		d.Stage = someStage(r)
	}
	return d
}

// somePlan is a well-formed plan without places.
func somePlan(r *rand.Rand, most int) api.Plan {
	p := api.Plan{Name: someName(r)}
	for range r.Intn(most + 1) {
		p.Decls = append(p.Decls, someDecl(r, 1+r.Intn(10)))
	}
	return p
}
