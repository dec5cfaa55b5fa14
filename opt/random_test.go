package opt_test

// Expressions, statements, plans and states at random, such as give the rules something to do.

import (
	"fmt"
	"math/rand"
	"slices"

	"junction/api"
)

// maker makes expressions and statements over so many things of each sort.
type maker struct {
	r                                    *rand.Rand
	groups, dets, timers, counters, vars int
	pool                                 map[int][][]api.Node // by type: what has been made, to stand somewhere again
}

// anyMaker is over few things, so that they meet.
func anyMaker(r *rand.Rand) *maker {
	return &maker{r: r, groups: 3, dets: 2, timers: 2, counters: 1, vars: 3, pool: map[int][][]api.Node{}}
}

func (m *maker) number() int32 {
	r := m.r
	return pick(r, 0, 0, 1, 1, 2, 3, -1, -2, 4, 5, 7, 10, r.Int31n(20)-10, int32(r.Uint32()), most, most-1, least, least+1, 65536, -65536)
}

// expr is an expression of a type and of at most that many nodes.
func (m *maker) expr(typ, size int) []api.Node {
	if again, ok := m.again(typ, size); ok {
		return again
	}
	e := m.newExpr(typ, size)
	m.pool[typ] = append(m.pool[typ], e)
	return e
}

// again is what has been made before, or a leaning of it: its opposite, or with a known word behind it.
func (m *maker) again(typ, size int) ([]api.Node, bool) {
	if len(m.pool[typ]) == 0 || m.r.Intn(5) > 0 {
		return nil, false
	}
	e := pick(m.r, m.pool[typ]...)
	switch last := len(e) - 1; m.r.Intn(6) {
	case 0:
		e = over(m.unary(typ), e)
	case 1:
		if typ == api.TyInt {
			e = over(pick(m.r, m.binaries(typ)...), e, leaf(api.OpInt, m.number()))
		} else if op := e[last].Op; op >= 40 && op <= 45 {
			e = append(slices.Clone(e[:last]), node(opposites[op], 0))
		}
	}
	return e, len(e) <= size
}

func (m *maker) newExpr(typ, size int) []api.Node {
	if size < 2 {
		return m.leaf(typ)
	}
	if size == 2 || m.r.Intn(6) == 0 {
		return over(m.unary(typ), m.expr(typ, size-1))
	}
	op := pick(m.r, m.binaries(typ)...)
	takes := api.TyInt
	if op == api.OpAnd || op == api.OpOr || (op == api.OpEq || op == api.OpNe) && m.r.Intn(2) == 0 {
		takes = api.TyBool
	}
	first := 1 + m.r.Intn(size-2)
	return over(op, m.expr(takes, first), m.expr(takes, size-1-first))
}

func (m *maker) unary(typ int) int {
	if typ == api.TyBool {
		return api.OpNot
	}
	return pick(m.r, api.OpNeg, api.OpAbs)
}

func (m *maker) binaries(typ int) []int {
	if typ == api.TyBool {
		return []int{api.OpEq, api.OpNe, api.OpLt, api.OpLe, api.OpGt, api.OpGe, api.OpAnd, api.OpOr, api.OpAnd, api.OpOr, api.OpEq, api.OpNe}
	}
	return []int{api.OpAdd, api.OpAdd, api.OpSub, api.OpMul, api.OpDiv, api.OpRem, api.OpMin, api.OpMax}
}

func (m *maker) leaf(typ int) []api.Node {
	rows := [][2]int{{api.OpInt, 0}, {api.OpElapsed, 1}, {api.OpVar, m.vars}, {api.OpVar, m.vars}, {api.OpTimer, m.timers}, {api.OpCounter, m.counters}}
	if typ == api.TyBool {
		rows = [][2]int{{api.OpBool, 2}, {api.OpGreen, m.groups}, {api.OpRed, m.groups}, {api.OpDet, m.dets}, {api.OpDet, m.dets}}
	}
	for {
		row := pick(m.r, rows...)
		switch {
		case row[0] == api.OpInt:
			return leaf(api.OpInt, m.number())
		case row[0] == api.OpElapsed:
			return leaf(api.OpElapsed, 0)
		case row[1] > 0:
			return leaf(row[0], m.r.Int31n(int32(row[1])))
		}
	}
}

// list has ifs in one another, as deep as that.
func (m *maker) list(deep int) []api.Stmt {
	var list []api.Stmt
	for range m.r.Intn(4) {
		if s, ok := m.statement(); ok {
			list = append(list, s)
		}
		if deep > 0 && m.r.Intn(2) == 0 {
			list = append(list, m.choice(deep)...)
		}
	}
	return list
}

func (m *maker) choice(deep int) []api.Stmt {
	list := []api.Stmt{{Kind: api.StIf, Expr: m.condition()}}
	first := m.list(deep - 1)
	if m.r.Intn(3) == 0 {
		first = nil
	}
	list = append(list, first...)
	if m.r.Intn(2) == 0 {
		second := m.list(deep - 1)
		if m.r.Intn(3) == 0 {
			second = first
		}
		list = append(append(list, api.Stmt{Kind: api.StElse}), second...)
	}
	return append(list, api.Stmt{Kind: api.StEnd})
}

// condition is often such as tells what a variable is.
func (m *maker) condition() []api.Node {
	if m.vars > 0 && m.r.Intn(3) == 0 {
		e := over(pick(m.r, api.OpEq, api.OpNe), leaf(api.OpVar, m.r.Int31n(int32(m.vars))), leaf(api.OpInt, m.r.Int31n(3)))
		if m.r.Intn(4) == 0 {
			return over(api.OpNot, e)
		}
		return e
	}
	return m.expr(api.TyBool, 1+m.r.Intn(6))
}

func (m *maker) statement() (api.Stmt, bool) {
	kind := pick(m.r, api.StSet, api.StSet, api.StSet, api.StReset, api.StRun, api.StStop, api.StCount, api.StZero, api.StClear)
	count := m.timers
	switch kind {
	case api.StSet:
		count = m.vars
	case api.StCount, api.StZero:
		count = m.counters
	case api.StClear:
		count = m.dets
	}
	if count == 0 {
		return api.Stmt{}, false
	}
	s := api.Stmt{Kind: kind, Ix: m.r.Intn(count)}
	if kind == api.StSet {
		s.Expr = m.expr(api.TyInt, 1+m.r.Intn(6))
		if m.r.Intn(2) == 0 {
			s.Expr = leaf(api.OpInt, m.r.Int31n(3))
		}
	}
	return s, true
}

// known is what may be known over the maker's things; what counts for nothing is anything.
func (m *maker) known() api.Known {
	k := api.Known{Steady: m.r.Intn(2) == 0, Green: m.r.Uint64(), Has: pick(m.r, 0, 0, m.r.Uint64(), m.r.Uint64()&m.r.Uint64())}
	for v := range k.Vals {
		k.Vals[v] = m.number()
	}
	return k
}

// anyTyped is a sound typed plan. Its numbers are small, so that much happens in few ticks.
func anyTyped(r *rand.Rand) api.Typed {
	x := api.Typed{Name: "p"}
	m := &maker{r: r, groups: pick(r, 0, 1, 2, 3, 4), dets: r.Intn(4), timers: r.Intn(3), counters: r.Intn(3), vars: r.Intn(5), pool: map[int][][]api.Node{}}
	anyTables(m, &x)
	for i := range m.dets {
		x.Dets = append(x.Dets, api.Det{Name: fmt.Sprintf("d%d", i), Latch: r.Intn(2) == 0, Delay: pick(r, 0, 0, 1, 2), Hold: pick(r, 0, 0, 1, 3)})
	}
	for i := range m.timers {
		x.Timers = append(x.Timers, fmt.Sprintf("t%d", i))
	}
	for i := range m.counters {
		x.Counters = append(x.Counters, fmt.Sprintf("c%d", i))
	}
	for i := range m.vars {
		x.Vars = append(x.Vars, api.Var{Name: fmt.Sprintf("v%d", i), Init: pick(r, 0, 1, 2, m.number())})
	}
	count, id := 1+r.Intn(7), 0
	for i := range count {
		id += pick(r, 0, 0, 0, 1, 7)
		x.Stages = append(x.Stages, api.TStage{Name: fmt.Sprintf("s%d", i), Id: id, Green: anyGreen(r, x.Tables), Enter: m.list(2), During: m.list(2), Leave: m.list(2), Nexts: m.nexts(i, count)})
		id++
	}
	x.Start = r.Intn(count)
	if m.vars > 0 && r.Intn(2) == 0 {
		settle(x, r.Intn(m.vars))
	}
	return x
}

// settle makes a variable one that nothing sets.
func settle(x api.Typed, v int) {
	for i := range x.Stages {
		for _, list := range []*[]api.Stmt{&x.Stages[i].Enter, &x.Stages[i].During, &x.Stages[i].Leave} {
			*list = slices.DeleteFunc(slices.Clone(*list), func(s api.Stmt) bool { return s.Kind == api.StSet && s.Ix == v })
		}
	}
}

func anyTables(m *maker, x *api.Typed) {
	r := m.r
	for i := range m.groups {
		x.Tables.Groups = append(x.Tables.Groups, api.Group{Name: fmt.Sprintf("g%d", i), Sort: 1 + r.Intn(2), Min: 1 + r.Intn(4), Amber: r.Intn(3), Lead: r.Intn(3)})
	}
	dense := 1 + r.Intn(5)
	for a := range m.groups {
		for b := a + 1; b < m.groups; b++ {
			if r.Intn(dense) == 0 {
				x.Tables.Conflicts = append(x.Tables.Conflicts, api.Conflict{A: a, B: b, AB: r.Intn(4), BA: r.Intn(4)})
			}
		}
	}
}

// anyGreen mostly has no two groups that conflict: with them a stage never arrives.
func anyGreen(r *rand.Rand, t api.Tables) uint64 {
	mask := r.Uint64() & (1<<len(t.Groups) - 1)
	for _, c := range t.Conflicts {
		if mask>>c.A&1 == 1 && mask>>c.B&1 == 1 && r.Intn(20) > 0 {
			mask &^= 1 << pick(r, c.A, c.B)
		}
	}
	return mask
}

func (m *maker) nexts(place, count int) []api.TNext {
	var list []api.TNext
	for range m.r.Intn(5) {
		if to := m.r.Intn(count); to != place {
			list = append(list, api.TNext{To: to, When: m.guard()})
		}
	}
	return list
}

func (m *maker) guard() []api.Node {
	switch m.r.Intn(6) {
	case 0:
		return leaf(api.OpBool, m.r.Int31n(2))
	case 1:
		return over(api.OpGe, leaf(api.OpElapsed, 0), leaf(api.OpInt, m.r.Int31n(3)))
	case 2:
		return m.condition()
	}
	return m.expr(api.TyBool, 1+m.r.Intn(7))
}

// anyIns are inputs whose bits stay for a while; also those of no detector.
func anyIns(r *rand.Rand, count int) []uint64 {
	ins, lasts := make([]uint64, count), pick(r, 1, 3, 8)
	for i := range ins {
		if i > 0 && r.Intn(lasts) > 0 {
			ins[i] = ins[i-1]
		} else {
			ins[i] = pick(r, 0, r.Uint64(), r.Uint64()&r.Uint64(), ^uint64(0))
		}
	}
	return ins
}

// scene is a plan without conflicts over a maker's things, in which each mask of groups is some stage's.
func scene(m *maker) api.Typed {
	x := api.Typed{Name: "p"}
	for i := range m.groups {
		x.Tables.Groups = append(x.Tables.Groups, api.Group{Name: fmt.Sprintf("g%d", i), Sort: api.Vehicle, Min: 1, Amber: 2, Lead: 2})
	}
	for i := range m.dets {
		x.Dets = append(x.Dets, api.Det{Name: fmt.Sprintf("d%d", i), Latch: i%2 == 1})
	}
	for i := range m.timers {
		x.Timers = append(x.Timers, fmt.Sprintf("t%d", i))
	}
	for i := range m.counters {
		x.Counters = append(x.Counters, fmt.Sprintf("c%d", i))
	}
	for i := range m.vars {
		x.Vars = append(x.Vars, api.Var{Name: fmt.Sprintf("v%d", i)})
	}
	for mask := range 1 << m.groups {
		x.Stages = append(x.Stages, api.TStage{Name: fmt.Sprintf("s%d", mask), Id: mask, Green: uint64(mask)})
	}
	return x
}

// stateOf is a state of a scene in which what is known is so.
func stateOf(m *maker, k api.Known) api.State {
	r := m.r
	meter := func() int32 { return pick(r, 0, 1, 2, 3, r.Int31n(10), r.Int31n(12), r.Int31(), most-1, most) }
	mask := int(k.Green & (1<<m.groups - 1))
	s := api.State{Tick: 1 + r.Intn(9), Stage: mask, Target: -1, Elapsed: meter()}
	if !k.Steady {
		s.Target = mask
	}
	for g := range m.groups {
		aspect, away := r.Intn(4), int32(1)
		if k.Steady {
			aspect = mask >> g & 1 * api.Green
		}
		if aspect == api.Green {
			away = 0
		}
		s.Heads.Aspect, s.Heads.In, s.Heads.Away = append(s.Heads.Aspect, aspect), append(s.Heads.In, 1), append(s.Heads.Away, away)
	}
	for v := range m.vars {
		w := m.number()
		if k.Has>>v&1 == 1 {
			w = k.Vals[v]
		}
		s.Vars = append(s.Vars, w)
	}
	for range m.timers {
		s.Timers = append(s.Timers, api.Timer{Value: meter()})
	}
	for range m.counters {
		s.Counters = append(s.Counters, meter())
	}
	for range m.dets {
		s.Dets = append(s.Dets, api.DetState{On: r.Intn(2) == 0})
	}
	return s
}
