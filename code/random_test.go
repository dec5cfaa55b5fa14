package code_test

// Expressions, statements, plans, pools and states at random.

import (
	"fmt"
	"math/rand"

	"junction/api"
)

// maker makes expressions and statements over so many things of each sort.
type maker struct {
	r                                    *rand.Rand
	groups, dets, timers, counters, vars int
}

// anyMaker is over few things, so that they meet.
func anyMaker(r *rand.Rand) *maker {
	return &maker{r: r, groups: 3, dets: 2, timers: 2, counters: 2, vars: 3}
}

// fullMaker is over all that a plan may have.
func fullMaker(r *rand.Rand) *maker {
	return &maker{r: r, groups: 64, dets: 64, timers: 64, counters: 64, vars: 64}
}

// number is often at the edges of the small ones, and often one that has been there already.
func (m *maker) number() int32 {
	r := m.r
	return pick(r, 0, 1, 2, -1, 127, 128, -128, -129, 126, 129, 1000, 1001, 70000, r.Int31n(20)-10, r.Int31n(600)-300, int32(r.Uint32()), most, least, least+1, 65536)
}

// expr is an expression of a type and of at most that many nodes.
func (m *maker) expr(typ, size int) []api.Node {
	if size < 2 {
		return m.leaf(typ)
	}
	if size == 2 || m.r.Intn(6) == 0 {
		return over(m.unary(typ), m.expr(typ, size-1))
	}
	op := pick(m.r, m.binaries(typ)...)
	takes := api.TyInt
	if op == api.OpAnd || op == api.OpOr || (op == api.OpEq || op == api.OpNe) && m.r.Intn(2) == 0 {
		takes = api.TyBool
	}
	first := 1 + m.r.Intn(size-2)
	return over(op, m.expr(takes, first), m.expr(takes, size-1-first))
}

func (m *maker) unary(typ int) int {
	if typ == api.TyBool {
		return api.OpNot
	}
	return pick(m.r, api.OpNeg, api.OpAbs)
}

func (m *maker) binaries(typ int) []int {
	if typ == api.TyBool {
		return []int{api.OpEq, api.OpNe, api.OpLt, api.OpLe, api.OpGt, api.OpGe, api.OpAnd, api.OpOr, api.OpAnd, api.OpOr, api.OpAnd, api.OpOr}
	}
	return []int{api.OpAdd, api.OpSub, api.OpMul, api.OpDiv, api.OpRem, api.OpMin, api.OpMax}
}

func (m *maker) leaf(typ int) []api.Node {
	rows := [][2]int{{api.OpInt, 0}, {api.OpInt, 0}, {api.OpElapsed, 1}, {api.OpVar, m.vars}, {api.OpTimer, m.timers}, {api.OpCounter, m.counters}}
	if typ == api.TyBool {
		rows = [][2]int{{api.OpBool, 2}, {api.OpGreen, m.groups}, {api.OpRed, m.groups}, {api.OpDet, m.dets}}
	}
	for {
		row := pick(m.r, rows...)
		switch {
		case row[0] == api.OpInt:
			return leaf(api.OpInt, m.number())
		case row[1] > 0:
			return leaf(row[0], m.r.Int31n(int32(row[1])))
		}
	}
}

// either is a number or a truth.
func (m *maker) either() []api.Node {
	return m.expr(pick(m.r, api.TyInt, api.TyBool, api.TyBool), pick(m.r, 1, 2, 3, 5, 9, 20, 40))
}

// list has ifs in one another, as deep as that.
func (m *maker) list(deep int) []api.Stmt {
	var list []api.Stmt
	for range m.r.Intn(4) {
		if s, ok := m.statement(); ok {
			list = append(list, s)
		}
		if deep > 0 && m.r.Intn(2) == 0 {
			list = append(list, api.Stmt{Kind: api.StIf, Expr: m.expr(api.TyBool, 1+m.r.Intn(6))})
			list = append(list, m.list(deep-1)...)
			if m.r.Intn(2) == 0 {
				list = append(append(list, api.Stmt{Kind: api.StElse}), m.list(deep-1)...)
			}
			list = append(list, api.Stmt{Kind: api.StEnd})
		}
	}
	return list
}

func (m *maker) statement() (api.Stmt, bool) {
	kind := pick(m.r, api.StSet, api.StSet, api.StSet, api.StReset, api.StRun, api.StStop, api.StCount, api.StZero, api.StClear)
	count := m.timers
	switch kind {
	case api.StSet:
		count = m.vars
	case api.StCount, api.StZero:
		count = m.counters
	case api.StClear:
		count = m.dets
	}
	if count == 0 {
		return api.Stmt{}, false
	}
	s := api.Stmt{Kind: kind, Ix: m.r.Intn(count)}
	if kind == api.StSet {
		s.Expr = m.expr(api.TyInt, 1+m.r.Intn(7))
	}
	return s, true
}

// pool is one that code may grow: some of its words stand in it twice, some are small.
func (m *maker) pool() []int32 {
	var list []int32
	for range pick(m.r, 0, 0, 1, 3, 12) {
		list = append(list, m.number())
	}
	return list
}

// things are those of the maker, without stages.
func (m *maker) things() api.Typed {
	x := api.Typed{Name: "p"}
	for i := range m.groups {
		x.Tables.Groups = append(x.Tables.Groups, api.Group{Name: fmt.Sprint("g", i), Sort: 1 + i%2, Min: 1 + m.r.Intn(4), Amber: m.r.Intn(3), Lead: m.r.Intn(3)})
	}
	for i := range m.dets {
		x.Dets = append(x.Dets, api.Det{Name: fmt.Sprint("d", i), Latch: m.r.Intn(2) == 0, Delay: pick(m.r, 0, 0, 1, 2), Hold: pick(m.r, 0, 0, 1, 3)})
	}
	for i := range m.timers {
		x.Timers = append(x.Timers, fmt.Sprint("t", i))
	}
	for i := range m.counters {
		x.Counters = append(x.Counters, fmt.Sprint("c", i))
	}
	for i := range m.vars {
		x.Vars = append(x.Vars, api.Var{Name: fmt.Sprint("v", i), Init: m.number()})
	}
	return x
}

// anyTyped is a sound typed plan. Its numbers are small, so that much happens in few ticks.
func anyTyped(r *rand.Rand) api.Typed {
	m := &maker{r: r, groups: r.Intn(5), dets: r.Intn(4), timers: r.Intn(3), counters: r.Intn(3), vars: r.Intn(5)}
	x := m.things()
	dense := 1 + r.Intn(5)
	for a := range m.groups {
		for b := a + 1; b < m.groups; b++ {
			if r.Intn(dense) == 0 {
				x.Tables.Conflicts = append(x.Tables.Conflicts, api.Conflict{A: a, B: b, AB: r.Intn(4), BA: r.Intn(4)})
			}
		}
	}
	count, id := 1+r.Intn(6), 0
	for i := range count {
		id += pick(r, 0, 0, 0, 1, 7)
		x.Stages = append(x.Stages, api.TStage{Name: fmt.Sprint("s", i), Id: id, Green: anyGreen(r, x.Tables), Enter: m.list(2), During: m.list(2), Leave: m.list(2), Nexts: m.nexts(i, count)})
		id++
	}
	x.Start = r.Intn(count)
	return x
}

// anyGreen mostly has no two groups that conflict: with them a stage never arrives.
func anyGreen(r *rand.Rand, t api.Tables) uint64 {
	mask := r.Uint64() & (1<<len(t.Groups) - 1)
	for _, c := range t.Conflicts {
		if mask>>c.A&1 == 1 && mask>>c.B&1 == 1 && r.Intn(20) > 0 {
			mask &^= 1 << pick(r, c.A, c.B)
		}
	}
	return mask
}

func (m *maker) nexts(place, count int) []api.TNext {
	var list []api.TNext
	for range m.r.Intn(5) {
		if to := m.r.Intn(count); to != place {
			list = append(list, api.TNext{To: to, When: m.guard()})
		}
	}
	return list
}

func (m *maker) guard() []api.Node {
	switch m.r.Intn(4) {
	case 0:
		return leaf(api.OpBool, m.r.Int31n(2))
	case 1:
		return over(api.OpGe, leaf(api.OpElapsed, 0), leaf(api.OpInt, m.r.Int31n(3)))
	}
	return m.expr(api.TyBool, 1+m.r.Intn(7))
}

// anyIns are inputs whose bits stay for a while; also those of no detector.
func anyIns(r *rand.Rand, count int) []uint64 {
	ins, lasts := make([]uint64, count), pick(r, 1, 3, 8)
	for i := range ins {
		if i > 0 && r.Intn(lasts) > 0 {
			ins[i] = ins[i-1]
		} else {
			ins[i] = pick(r, 0, r.Uint64(), r.Uint64()&r.Uint64(), ^uint64(0))
		}
	}
	return ins
}

// scene is a plan of one stage over a maker's things, in which groups at random are green.
func (m *maker) scene() api.Typed {
	x := m.things()
	green := m.r.Uint64()
	if m.groups < 64 {
		green %= 1 << m.groups
	}
	x.Stages = []api.TStage{{Name: "s", Green: green}}
	return x
}

// meter is a count at its edges, or a small one.
func (m *maker) meter() int32 {
	return pick(m.r, 0, 1, 2, m.r.Int31n(10), m.r.Int31n(200), m.r.Int31(), most-1, most)
}

// state is one of a scene: its stage is steady.
func (m *maker) state(x api.Typed) api.State {
	r := m.r
	s := api.State{Tick: 1 + r.Intn(9), Target: -1, Elapsed: m.meter()}
	for g := range m.groups {
		bit := int(x.Stages[0].Green >> g & 1)
		s.Heads.Aspect, s.Heads.In, s.Heads.Away = append(s.Heads.Aspect, bit*api.Green), append(s.Heads.In, 1), append(s.Heads.Away, int32(1-bit))
	}
	for range m.vars {
		s.Vars = append(s.Vars, m.number())
	}
	for range m.timers {
		s.Timers = append(s.Timers, api.Timer{Value: m.meter(), Running: r.Intn(2) == 0})
	}
	for range m.counters {
		s.Counters = append(s.Counters, m.meter())
	}
	for i := range m.dets {
		s.Dets = append(s.Dets, api.DetState{Run: m.meter(), Left: m.meter(), On: r.Intn(2) == 0, Mem: x.Dets[i].Latch && r.Intn(2) == 0})
	}
	return s
}
