package opt_test

// The second way: the chapter's rules in its own order, over plain lists of nodes and with no thought of speed.

import (
	"fmt"
	"slices"

	"junction/api"
	"junction/arith"
	"junction/safety"
	"junction/tree"
)

// operandsOf are the operands of an expression's root.
func operandsOf(e []api.Node) [][]api.Node {
	var list [][]api.Node
	end := len(e) - 1
	for range arith.Arity(e[end].Op) {
		from := tree.Span(e, end-1)
		list = append(list, e[from:end])
		end = from
	}
	slices.Reverse(list)
	return list
}

func rootOf(e []api.Node) int { return e[len(e)-1].Op }

type ends [2]int64

var fullRange = ends{least, most}

func modelRange(e []api.Node, k api.Known) ends {
	n := e[len(e)-1]
	var rs []ends
	single := true
	for _, o := range operandsOf(e) {
		r := modelRange(o, k)
		rs = append(rs, r)
		single = single && r[0] == r[1]
	}
	switch {
	case len(rs) == 0:
		return modelLeaf(n, k)
	case single && len(rs) == 1:
		w, _ := arith.Unary(n.Op, int32(rs[0][0]))
		return ends{int64(w), int64(w)}
	case single:
		w, _ := arith.Binary(n.Op, int32(rs[0][0]), int32(rs[1][0]))
		return ends{int64(w), int64(w)}
	case len(rs) == 1:
		return modelOne(n.Op, rs[0][0], rs[0][1])
	}
	return modelTwo(n.Op, rs[0][0], rs[0][1], rs[1][0], rs[1][1])
}

func modelLeaf(n api.Node, k api.Known) ends {
	bit := func(mask uint64) int64 { return int64(mask >> n.Val & 1) }
	switch n.Op {
	case api.OpInt, api.OpBool:
		return ends{int64(n.Val), int64(n.Val)}
	case api.OpVar:
		if bit(k.Has) == 1 {
			return ends{int64(k.Vals[n.Val]), int64(k.Vals[n.Val])}
		}
		return fullRange
	case api.OpElapsed, api.OpTimer, api.OpCounter:
		return ends{0, most}
	case api.OpGreen:
		if k.Steady {
			return ends{bit(k.Green), bit(k.Green)}
		}
	case api.OpRed:
		if k.Steady {
			return ends{1 - bit(k.Green), 1 - bit(k.Green)}
		}
	}
	return ends{0, 1}
}

func modelOne(op int, a1, a2 int64) ends {
	switch op {
	case api.OpNeg:
		if a1 == least {
			return fullRange
		}
		return ends{-a2, -a1}
	case api.OpAbs:
		if a1 >= 0 {
			return ends{a1, a2}
		}
		if a1 == least {
			return fullRange
		}
		if a2 <= 0 {
			return ends{-a2, -a1}
		}
		return ends{0, max(-a1, a2)}
	}
	if a1 > 0 || a2 < 0 {
		return ends{0, 0}
	}
	return ends{0, 1}
}

func orFull(lo, hi int64) ends {
	if lo < least || lo > most || hi < least || hi > most {
		return fullRange
	}
	return ends{lo, hi}
}

func modelTwo(op int, a1, a2, b1, b2 int64) ends {
	switch op {
	case api.OpAdd:
		return orFull(a1+b1, a2+b2)
	case api.OpSub:
		return orFull(a1-b2, a2-b1)
	case api.OpMul:
		four := []int64{a1 * b1, a1 * b2, a2 * b1, a2 * b2}
		return orFull(slices.Min(four), slices.Max(four))
	case api.OpDiv:
		return modelDiv(a1, a2, b1, b2)
	case api.OpRem:
		return modelRem(a1, a2, b1, b2)
	case api.OpMin:
		return ends{min(a1, b1), min(a2, b2)}
	case api.OpMax:
		return ends{max(a1, b1), max(a2, b2)}
	case api.OpGt:
		return modelTwo(api.OpLt, b1, b2, a1, a2)
	case api.OpGe:
		return modelTwo(api.OpLe, b1, b2, a1, a2)
	}
	hasNo0 := func(lo, hi int64) bool { return lo > 0 || hi < 0 }
	zero := func(lo, hi int64) bool { return lo == 0 && hi == 0 }
	var yes, no bool
	switch op {
	case api.OpEq:
		no = a2 < b1 || b2 < a1
	case api.OpNe:
		yes = a2 < b1 || b2 < a1
	case api.OpLt:
		yes, no = a2 < b1, a1 >= b2
	case api.OpLe:
		yes, no = a2 <= b1, a1 > b2
	case api.OpAnd:
		no = zero(a1, a2) || zero(b1, b2)
		yes = !no && hasNo0(a1, a2) && hasNo0(b1, b2)
	case api.OpOr:
		yes = hasNo0(a1, a2) || hasNo0(b1, b2)
		no = !yes && zero(a1, a2) && zero(b1, b2)
	}
	switch {
	case yes:
		return ends{1, 1}
	case no:
		return ends{0, 0}
	}
	return ends{0, 1}
}

func modelDiv(a1, a2, b1, b2 int64) ends {
	c := b1
	switch {
	case b1 == 0 && b2 == 0:
		return ends{0, 0}
	case a1 >= 0 && b1 >= 0 && b1 == b2:
		return ends{a1 / c, a2 / c}
	case a1 >= 0 && b1 >= 0:
		return ends{0, a2}
	case b1 == b2 && c == -1 && a1 == least:
		return fullRange
	case b1 == b2:
		return ends{min(a1/c, a2/c), max(a1/c, a2/c)}
	case a1 == least:
		return fullRange
	}
	m := max(-a1, a2)
	return ends{-m, m}
}

func modelRem(a1, a2, b1, b2 int64) ends {
	k := int64(most)
	switch {
	case b1 == 0 && b2 == 0:
		return ends{0, 0}
	case b1 == b2 && b1 < 0:
		k = -b1 - 1
	case b1 == b2:
		k = b1 - 1
	}
	switch {
	case a1 >= 0:
		return ends{0, min(a2, k)}
	case a2 <= 0:
		return ends{max(a1, -k), 0}
	}
	return ends{max(a1, -k), min(a2, k)}
}

// model folds; it counts which rules it has used.
type model struct {
	k    api.Known
	used map[string]int
}

func isWord(e []api.Node) bool {
	return len(e) == 1 && (e[0].Op == api.OpInt || e[0].Op == api.OpBool)
}

func isTruthOp(op int) bool { return op == api.OpNot || op >= 40 }

func wordFor(op int, w int64) []api.Node {
	if isTruthOp(op) {
		return leaf(api.OpBool, int32(w))
	}
	return leaf(api.OpInt, int32(w))
}

func isRelation(e []api.Node) bool { return rootOf(e) >= 40 && rootOf(e) <= 45 }

var opposites = map[int]int{api.OpEq: api.OpNe, api.OpNe: api.OpEq, api.OpLt: api.OpGe, api.OpGe: api.OpLt, api.OpGt: api.OpLe, api.OpLe: api.OpGt}

var mirrors = map[int]int{api.OpLt: api.OpGt, api.OpGt: api.OpLt, api.OpLe: api.OpGe, api.OpGe: api.OpLe}

func (m model) fold(e []api.Node) []api.Node {
	n := e[len(e)-1]
	var folded [][]api.Node
	for _, o := range operandsOf(e) {
		folded = append(folded, m.fold(o))
	}
	switch {
	case len(folded) > 0:
		return m.make(n.Op, folded...)
	case n.Op == api.OpVar && m.k.Has>>n.Val&1 == 1:
		return leaf(api.OpInt, m.k.Vals[n.Val])
	case n.Op == api.OpGreen && m.k.Steady:
		return leaf(api.OpBool, int32(m.k.Green>>n.Val&1))
	case n.Op == api.OpRed && m.k.Steady:
		return leaf(api.OpBool, 1-int32(m.k.Green>>n.Val&1))
	}
	return e
}

// rules are tried from the first one on: each answers an expression, or none.
func (m model) make(op int, operands ...[]api.Node) []api.Node {
	r := modelRange(over(op, operands...), m.k)
	if r[0] == r[1] {
		return m.use("1", wordFor(op, r[0]))
	}
	var e []api.Node
	if len(operands) == 1 {
		e = m.one(op, operands[0])
	} else {
		e = m.two(op, operands[0], operands[1])
	}
	if e == nil {
		return over(op, operands...)
	}
	return e
}

func (m model) use(rule string, e []api.Node) []api.Node {
	m.used[rule]++
	return e
}

func (m model) one(op int, a []api.Node) []api.Node {
	in := operandsOf(a)
	switch {
	case op == api.OpNeg && rootOf(a) == api.OpNeg:
		return m.use("2", in[0])
	case op == api.OpNot && rootOf(a) == api.OpNot:
		return m.use("3 not", in[0])
	case op == api.OpNot && isRelation(a):
		return m.use("3 relation", m.make(opposites[rootOf(a)], in...))
	case op == api.OpAbs && modelRange(a, m.k)[0] >= 0:
		return m.use("4 range", a)
	case op == api.OpAbs && rootOf(a) == api.OpAbs:
		return m.use("4 abs", a)
	case op == api.OpAbs && rootOf(a) == api.OpNeg:
		return m.use("4 neg", m.make(api.OpAbs, in[0]))
	}
	return nil
}

func (m model) two(op int, a, b []api.Node) []api.Node {
	for _, rule := range []func(int, []api.Node, []api.Node) []api.Node{m.rule5, m.rule6, m.rules7to10, m.rules11to13, m.rule14, m.rule15, m.rule16, m.rules17to18} {
		if e := rule(op, a, b); e != nil {
			return e
		}
	}
	return nil
}

func (m model) rule5(op int, a, b []api.Node) []api.Node {
	if !isWord(a) || isWord(b) {
		return nil
	}
	switch op {
	case api.OpAdd, api.OpMul, api.OpMin, api.OpMax, api.OpEq, api.OpNe, api.OpAnd, api.OpOr:
		return m.use(fmt.Sprintf("5 %s", signs[op]), m.make(op, b, a))
	case api.OpLt, api.OpLe, api.OpGt, api.OpGe:
		return m.use(fmt.Sprintf("5 %s", signs[op]), m.make(mirrors[op], b, a))
	}
	return nil
}

func (m model) rule6(op int, a, b []api.Node) []api.Node {
	if !slices.Equal(a, b) {
		return nil
	}
	name := fmt.Sprintf("6 %s", signs[op])
	switch op {
	case api.OpSub, api.OpRem, api.OpNe, api.OpLt, api.OpGt:
		return m.use(name, wordFor(op, 0))
	case api.OpEq, api.OpLe, api.OpGe:
		return m.use(name, wordFor(op, 1))
	case api.OpAnd, api.OpOr, api.OpMin, api.OpMax:
		return m.use(name, a)
	}
	return nil
}

// knownBehind is x and d, where a is that operator of x and a known word d.
func knownBehind(op int, a []api.Node) ([]api.Node, int32, bool) {
	if rootOf(a) != op {
		return nil, 0, false
	}
	in := operandsOf(a)
	if !isWord(in[1]) {
		return nil, 0, false
	}
	return in[0], in[1][0].Val, true
}

func (m model) rules7to10(op int, a, b []api.Node) []api.Node {
	if !isWord(b) {
		return nil
	}
	c := b[0].Val
	x, d, again := knownBehind(op, a)
	switch {
	case op == api.OpSub:
		return m.use("7", m.make(api.OpAdd, a, leaf(api.OpInt, -c)))
	case op == api.OpAdd && c == 0:
		return m.use("8 zero", a)
	case op == api.OpAdd && again:
		return m.use("8 again", m.make(op, x, leaf(api.OpInt, d+c)))
	case op == api.OpMul && c == 1:
		return m.use("9 one", a)
	case op == api.OpMul && again:
		return m.use("9 again", m.make(op, x, leaf(api.OpInt, d*c)))
	case op == api.OpDiv && c == 1:
		return m.use("10", a)
	}
	return nil
}

func (m model) rules11to13(op int, a, b []api.Node) []api.Node {
	ra, rb := modelRange(a, m.k), modelRange(b, m.k)
	if op == api.OpRem && isWord(b) && b[0].Val != 0 {
		k := int64(b[0].Val)
		if k < 0 {
			k = -k
		}
		if ra[0] >= 0 && ra[1] <= k-1 {
			return m.use("11", a)
		}
	}
	switch {
	case op == api.OpMin && ra[1] <= rb[0], op == api.OpMax && ra[0] >= rb[1]:
		return m.use("12 first", a)
	case op == api.OpMin && rb[1] <= ra[0], op == api.OpMax && rb[0] >= ra[1]:
		return m.use("12 second", b)
	}
	if (op == api.OpMin || op == api.OpMax) && isWord(b) {
		if x, d, ok := knownBehind(op, a); ok {
			w, _ := arith.Binary(op, d, b[0].Val)
			return m.use("13", m.make(op, x, leaf(api.OpInt, w)))
		}
	}
	return nil
}

func (m model) rule14(op int, a, b []api.Node) []api.Node {
	if op != api.OpEq && op != api.OpNe || !isWord(b) || b[0].Op != api.OpInt {
		return nil
	}
	if x, d, ok := knownBehind(api.OpAdd, a); ok {
		return m.use("14 sum", m.make(op, x, leaf(api.OpInt, b[0].Val-d)))
	}
	if rootOf(a) == api.OpNeg {
		return m.use("14 neg", m.make(op, operandsOf(a)[0], leaf(api.OpInt, -b[0].Val)))
	}
	return nil
}

func (m model) rule15(op int, a, b []api.Node) []api.Node {
	if op != api.OpEq && op != api.OpNe || !isWord(b) || b[0].Op != api.OpBool {
		return nil
	}
	c, in := b[0].Val, operandsOf(a)
	switch {
	case op == api.OpEq && c == 1, op == api.OpNe && c == 0:
		return m.use("15 same", a)
	case op == api.OpNe && c == 1:
		return m.use("15 unequal", m.make(api.OpEq, a, leaf(api.OpBool, 0)))
	case rootOf(a) == api.OpNot:
		return m.use("15 not", in[0])
	case isRelation(a):
		return m.use("15 relation", m.make(opposites[rootOf(a)], in...))
	}
	return nil
}

func (m model) rule16(op int, a, b []api.Node) []api.Node {
	switch {
	case op == api.OpAdd && rootOf(b) == api.OpNeg:
		return m.use("16 second", m.make(api.OpSub, a, operandsOf(b)[0]))
	case op == api.OpAdd && rootOf(a) == api.OpNeg:
		return m.use("16 first", m.make(api.OpSub, b, operandsOf(a)[0]))
	case op == api.OpSub && rootOf(b) == api.OpNeg:
		return m.use("16 minus", m.make(api.OpAdd, a, operandsOf(b)[0]))
	}
	return nil
}

func (m model) rules17to18(op int, a, b []api.Node) []api.Node {
	if op != api.OpAnd && op != api.OpOr {
		return nil
	}
	if isWord(b) && (op == api.OpAnd) == (b[0].Val == 1) {
		return m.use("17", a)
	}
	isNot := func(x, y []api.Node) bool { return slices.Equal(x, over(api.OpNot, y)) }
	switch {
	case isNot(a, b):
		return m.use("18 first", wordFor(op, int64(op-api.OpAnd)))
	case isNot(b, a):
		return m.use("18 second", wordFor(op, int64(op-api.OpAnd)))
	case isRelation(a) && isRelation(b) && opposites[rootOf(a)] == rootOf(b) && slices.Equal(a[:len(a)-1], b[:len(b)-1]):
		return m.use("18 relations", wordFor(op, int64(op-api.OpAnd)))
	}
	return nil
}

// branch is a statement; of an if with its parts.
type branch struct {
	api.Stmt
	first, second []branch
}

// branches cuts a list up to its end, or to the else or the end of the if in which it stands.
func branches(list []api.Stmt) ([]branch, []api.Stmt) {
	var out []branch
	for len(list) > 0 && list[0].Kind != api.StElse && list[0].Kind != api.StEnd {
		b := branch{Stmt: list[0]}
		list = list[1:]
		if b.Kind == api.StIf {
			b.first, list = branches(list)
			if list[0].Kind == api.StElse {
				b.second, list = branches(list[1:])
			}
			list = list[1:]
		}
		out = append(out, b)
	}
	return out, list
}

func modelBody(list []api.Stmt, k api.Known, used map[string]int) ([]api.Stmt, api.Known) {
	for v := range k.Vals {
		if k.Has>>v&1 == 0 {
			k.Vals[v] = 0
		}
	}
	whole, _ := branches(list)
	return modelBranches(whole, k, used)
}

func modelBranches(list []branch, k api.Known, used map[string]int) ([]api.Stmt, api.Known) {
	var out []api.Stmt
	for len(list) > 0 {
		s := list[0]
		list = list[1:]
		m := model{k, used}
		switch s.Kind {
		case api.StSet:
			var stays bool
			s.Expr = m.fold(s.Expr)
			if k, stays = m.set(s.Ix, s.Expr); stays {
				out = append(out, s.Stmt)
			}
		case api.StIf:
			c := m.fold(s.Expr)
			if isWord(c) {
				part := s.first
				if c[0].Val == 0 {
					part = s.second
				}
				used["if known"]++
				list = slices.Concat(part, list)
				continue
			}
			var some []api.Stmt
			some, k = m.choice(c, s)
			out = append(out, some...)
		default:
			out = append(out, s.Stmt)
		}
	}
	return out, k
}

// set is what is known behind an assignment, and whether it stays.
func (m model) set(v int, e []api.Node) (api.Known, bool) {
	k := m.k
	bit := uint64(1) << v
	switch {
	case slices.Equal(e, leaf(api.OpVar, int32(v))):
		m.used["set itself"]++
		return k, false
	case isWord(e) && k.Has&bit != 0 && k.Vals[v] == e[0].Val:
		m.used["set again"]++
		return k, false
	case isWord(e):
		k.Has, k.Vals[v] = k.Has|bit, e[0].Val
	default:
		k.Has, k.Vals[v] = k.Has&^bit, 0
	}
	return k, true
}

func (m model) choice(c []api.Node, s branch) ([]api.Stmt, api.Known) {
	yes, no := m.k, m.k
	in := operandsOf(c)
	if isRelation(c) && len(in[0]) == 1 && in[0][0].Op == api.OpVar && isWord(in[1]) {
		v, w := in[0][0].Val, in[1][0].Val
		switch rootOf(c) {
		case api.OpEq:
			yes.Has, yes.Vals[v] = yes.Has|1<<v, w
		case api.OpNe:
			no.Has, no.Vals[v] = no.Has|1<<v, w
		}
	}
	a, yes := modelBranches(s.first, yes, m.used)
	b, no := modelBranches(s.second, no, m.used)
	behind := api.Known{Steady: m.k.Steady, Green: m.k.Green}
	for v := range 64 {
		if yes.Has>>v&1 == 1 && no.Has>>v&1 == 1 && yes.Vals[v] == no.Vals[v] {
			behind.Has, behind.Vals[v] = behind.Has|1<<v, yes.Vals[v]
		}
	}
	begin := func(e []api.Node) []api.Stmt { return []api.Stmt{{Kind: api.StIf, Expr: e}} }
	other, end := []api.Stmt{{Kind: api.StElse}}, []api.Stmt{{Kind: api.StEnd}}
	switch {
	case same(a, b):
		m.used["if same"]++
		return a, behind
	case len(a) == 0 && rootOf(c) == api.OpNot:
		m.used["if not"]++
		return slices.Concat(begin(in[0]), b, end), behind
	case len(a) == 0 && isRelation(c):
		m.used["if opposite"]++
		return slices.Concat(begin(m.make(opposites[rootOf(c)], in...)), b, end), behind
	case len(b) == 0:
		m.used["if alone"]++
		return slices.Concat(begin(c), a, end), behind
	}
	m.used["if else"]++
	return slices.Concat(begin(c), a, other, b, end), behind
}

func modelPlan(t api.Typed, used map[string]int) api.Typed {
	for rounds := 1; ; rounds++ {
		next := modelRound(t, used)
		if same(next, t) {
			used[fmt.Sprintf("rounds %d", rounds)]++
			return t
		}
		t = next
	}
}

func modelRound(t api.Typed, used map[string]int) api.Typed {
	t = copied(t)
	var k api.Known
	for v, row := range t.Vars {
		if !isSet(t, v) {
			k.Has, k.Vals[v] = k.Has|1<<v, row.Init
		}
	}
	for i := range t.Stages {
		s := &t.Stages[i]
		k.Steady, k.Green = true, s.Green
		s.Enter, _ = modelBody(s.Enter, k, used)
		var behind api.Known
		s.During, behind = modelBody(s.During, k, used)
		for n := range s.Nexts {
			s.Nexts[n].When = model{behind, used}.fold(s.Nexts[n].When)
		}
		s.Leave, _ = modelBody(s.Leave, behind, used)
		s.Nexts = modelNexts(s.Nexts, used)
		if len(s.Nexts) == 0 {
			s.Leave = nil
		}
	}
	return modelReached(t, used)
}

func isSet(t api.Typed, v int) bool {
	for _, s := range t.Stages {
		for _, w := range slices.Concat(s.Enter, s.During, s.Leave) {
			if w.Kind == api.StSet && w.Ix == v {
				return true
			}
		}
	}
	return false
}

func modelNexts(list []api.TNext, used map[string]int) []api.TNext {
	var out []api.TNext
	for i, n := range list {
		again := slices.ContainsFunc(out, func(o api.TNext) bool { return slices.Equal(o.When, n.When) })
		switch {
		case slices.Equal(n.When, leaf(api.OpBool, 0)):
			used["next false"]++
			continue
		case again:
			used["next again"]++
			continue
		}
		out = append(out, n)
		if slices.Equal(n.When, leaf(api.OpBool, 1)) {
			used["next behind true"] += len(list) - 1 - i
			break
		}
	}
	return out
}

func modelReached(t api.Typed, used map[string]int) api.Typed {
	reached, e := safety.Reach(t)
	if e != api.OK {
		panic("a plan on the way is not sound")
	}
	var stages []api.TStage
	for i, s := range t.Stages {
		if reached[i] {
			stages = append(stages, s)
		} else {
			used["stage gone"]++
		}
	}
	placeOf := func(old int) int {
		return slices.IndexFunc(stages, func(s api.TStage) bool { return s.Id == t.Stages[old].Id })
	}
	for i := range stages {
		for n := range stages[i].Nexts {
			stages[i].Nexts[n].To = placeOf(stages[i].Nexts[n].To)
		}
	}
	t.Stages, t.Start = stages, placeOf(t.Start)
	return t
}
