package sim_test

// Plans, states and inputs at random.

import (
	"fmt"
	"math"
	"math/rand"

	"junction/api"
)

// planner makes a sound typed plan. Its numbers are small, so that much happens in few ticks.
type planner struct {
	r *rand.Rand
	x api.Typed
}

func anyTyped(r *rand.Rand) api.Typed {
	g := &planner{r: r, x: api.Typed{Name: "p"}}
	g.tables()
	for i := range pick(r, 0, 1, 2, 3, 5) {
		g.x.Dets = append(g.x.Dets, api.Det{Name: fmt.Sprintf("d%d", i), Latch: r.Intn(2) == 0, Delay: pick(r, 0, 0, 1, 2, 3600), Hold: pick(r, 0, 0, 1, 3, 3600)})
	}
	for i := range r.Intn(4) {
		g.x.Timers = append(g.x.Timers, fmt.Sprintf("t%d", i))
	}
	for i := range r.Intn(4) {
		g.x.Counters = append(g.x.Counters, fmt.Sprintf("c%d", i))
	}
	for i := range r.Intn(4) {
		g.x.Vars = append(g.x.Vars, api.Var{Name: fmt.Sprintf("v%d", i), Init: g.number()})
	}
	g.stages(1 + r.Intn(6))
	return g.x
}

func (g *planner) tables() {
	r, groups := g.r, pick(g.r, 0, 1, 2, 3, 4, 6)
	for i := range groups {
		g.x.Tables.Groups = append(g.x.Tables.Groups, api.Group{Name: fmt.Sprintf("g%d", i), Sort: 1 + r.Intn(2), Min: 1 + r.Intn(4), Amber: r.Intn(3), Lead: r.Intn(3)})
	}
	dense := 1 + r.Intn(5)
	for a := range groups {
		for b := a + 1; b < groups; b++ {
			if r.Intn(dense) == 0 {
				g.x.Tables.Conflicts = append(g.x.Tables.Conflicts, api.Conflict{A: a, B: b, AB: r.Intn(4), BA: r.Intn(4)})
			}
		}
	}
}

// green mostly has no two groups that conflict: with them a stage never arrives.
func (g *planner) green() uint64 {
	mask := g.r.Uint64() & (1<<len(g.x.Tables.Groups) - 1)
	for _, c := range g.x.Tables.Conflicts {
		if mask>>c.A&1 == 1 && mask>>c.B&1 == 1 && g.r.Intn(20) > 0 {
			mask &^= 1 << pick(g.r, c.A, c.B)
		}
	}
	return mask
}

func (g *planner) stages(count int) {
	r, id := g.r, 0
	for i := range count {
		id += pick(r, 0, 0, 0, 1, 7)
		s := api.TStage{Name: fmt.Sprintf("s%d", i), Id: id, Green: g.green(), Enter: g.list(2), During: g.list(2), Leave: g.list(2)}
		id++
		for range r.Intn(4) {
			if to := r.Intn(count); to != i {
				s.Nexts = append(s.Nexts, api.TNext{To: to, When: g.guard()})
			}
		}
		g.x.Stages = append(g.x.Stages, s)
	}
	g.x.Start = r.Intn(count)
}

func (g *planner) guard() []api.Node {
	switch g.r.Intn(4) {
	case 0:
		return leaf(api.OpBool, 1)
	case 1:
		return over(api.OpGe, leaf(api.OpElapsed, 0), leaf(api.OpInt, g.r.Int31n(6)))
	}
	return g.expr(api.TyBool, 1+g.r.Intn(7))
}

func (g *planner) number() int32 {
	return pick(g.r, 0, 1, 2, 3, -1, g.r.Int31n(10), int32(g.r.Uint32()), math.MaxInt32, math.MinInt32)
}

// list has ifs in one another, as deep as that.
func (g *planner) list(deep int) []api.Stmt {
	var list []api.Stmt
	for range g.r.Intn(4) {
		if s, ok := g.statement(); ok {
			list = append(list, s)
		}
		if deep > 0 && g.r.Intn(3) == 0 {
			list = append(list, api.Stmt{Kind: api.StIf, Expr: g.expr(api.TyBool, 1+g.r.Intn(5))})
			list = append(list, g.list(deep-1)...)
			if g.r.Intn(2) == 0 {
				list = append(append(list, api.Stmt{Kind: api.StElse}), g.list(deep-1)...)
			}
			list = append(list, api.Stmt{Kind: api.StEnd})
		}
	}
	return list
}

func (g *planner) statement() (api.Stmt, bool) {
	kind := pick(g.r, api.StSet, api.StSet, api.StSet, api.StReset, api.StRun, api.StRun, api.StStop, api.StCount, api.StCount, api.StZero, api.StClear)
	things := len(g.x.Timers)
	switch kind {
	case api.StSet:
		things = len(g.x.Vars)
	case api.StCount, api.StZero:
		things = len(g.x.Counters)
	case api.StClear:
		things = len(g.x.Dets)
	}
	if things == 0 {
		return api.Stmt{}, false
	}
	s := api.Stmt{Kind: kind, Ix: g.r.Intn(things)}
	if kind == api.StSet {
		s.Expr = g.expr(api.TyInt, 1+g.r.Intn(7))
	}
	return s, true
}

// expr is an expression of a type and of at most that many nodes.
func (g *planner) expr(typ, size int) []api.Node {
	if size < 2 {
		return g.leaf(typ)
	}
	if size == 2 {
		return over(g.unary(typ), g.expr(typ, 1))
	}
	op := pick(g.r, g.binaries(typ)...)
	takes := api.TyInt
	if op == api.OpAnd || op == api.OpOr || op <= api.OpNe && op >= api.OpEq && g.r.Intn(2) == 0 {
		takes = api.TyBool
	}
	first := 1 + g.r.Intn(size-2)
	return over(op, g.expr(takes, first), g.expr(takes, size-1-first))
}

func (g *planner) unary(typ int) int {
	if typ == api.TyBool {
		return api.OpNot
	}
	return pick(g.r, api.OpNeg, api.OpAbs)
}

func (g *planner) binaries(typ int) []int {
	if typ == api.TyBool {
		return []int{api.OpEq, api.OpNe, api.OpLt, api.OpLe, api.OpGt, api.OpGe, api.OpAnd, api.OpOr}
	}
	return []int{api.OpAdd, api.OpSub, api.OpMul, api.OpDiv, api.OpRem, api.OpMin, api.OpMax}
}

func (g *planner) leaf(typ int) []api.Node {
	x := g.x
	ops := [][2]int{{api.OpInt, 0}, {api.OpElapsed, 1}, {api.OpVar, len(x.Vars)}, {api.OpTimer, len(x.Timers)}, {api.OpCounter, len(x.Counters)}}
	if typ == api.TyBool {
		ops = [][2]int{{api.OpBool, 2}, {api.OpGreen, len(x.Tables.Groups)}, {api.OpRed, len(x.Tables.Groups)}, {api.OpDet, len(x.Dets)}}
	}
	for {
		row := pick(g.r, ops...)
		switch {
		case row[0] == api.OpInt:
			return leaf(api.OpInt, g.number())
		case row[1] > 0:
			return leaf(row[0], g.r.Int31n(int32(row[1])))
		}
	}
}

// anyIns are inputs whose bits stay for a while; also those of no detector.
func anyIns(r *rand.Rand, count int) []uint64 {
	ins, lasts := make([]uint64, count), pick(r, 1, 3, 8)
	for i := range ins {
		if i > 0 && r.Intn(lasts) > 0 {
			ins[i] = ins[i-1]
		} else {
			ins[i] = pick(r, 0, r.Uint64(), r.Uint64()&r.Uint64(), ^uint64(0))
		}
	}
	return ins
}

// anyMeter is a count at its edges, or a small one.
func anyMeter(r *rand.Rand) int32 {
	return pick(r, 0, 1, r.Int31n(10), r.Int31n(10), math.MaxInt32-1, math.MaxInt32)
}

// anyState is a state of the plan, mostly such as no run comes to.
func anyState(r *rand.Rand, x api.Typed) api.State {
	s := api.State{Tick: pick(r, 1, 2, 1+r.Intn(100), math.MaxInt-1, math.MaxInt), Stage: pick(r, x.Stages...).Id, Target: -1, Elapsed: anyMeter(r)}
	stage := pick(r, x.Stages...)
	if r.Intn(2) == 0 && calm(x.Tables, stage.Green) {
		s.Stage, s.Heads = stage.Id, anyHeads(r, x.Tables, func(g int) int { return int(stage.Green >> g & 1 * api.Green) })
	} else {
		s.Stage, s.Target, s.Heads = pick(r, s.Stage, -1), stage.Id, anyHeads(r, x.Tables, func(int) int { return r.Intn(4) })
	}
	for range x.Vars {
		s.Vars = append(s.Vars, pick(r, r.Int31n(9), int32(r.Uint32()), math.MinInt32, math.MaxInt32))
	}
	for range x.Timers {
		s.Timers = append(s.Timers, api.Timer{Value: anyMeter(r), Running: r.Intn(2) == 0})
	}
	for range x.Counters {
		s.Counters = append(s.Counters, anyMeter(r))
	}
	for _, d := range x.Dets {
		s.Dets = append(s.Dets, api.DetState{Run: anyMeter(r), Left: anyMeter(r), On: r.Intn(2) == 0, Mem: d.Latch && r.Intn(2) == 0})
	}
	return s
}

func calm(t api.Tables, mask uint64) bool {
	for _, c := range t.Conflicts {
		if mask>>c.A&1 == 1 && mask>>c.B&1 == 1 {
			return false
		}
	}
	return true
}

// anyHeads are sound; a group whose aspect cannot be is red.
func anyHeads(r *rand.Rand, t api.Tables, aspectOf func(int) int) api.Heads {
	var h api.Heads
	for i, g := range t.Groups {
		aspect := aspectOf(i)
		for _, c := range t.Conflicts {
			if c.B == i && h.Aspect[c.A] != api.Red {
				aspect = api.Red
			}
		}
		most := map[int]int{api.Lead: g.Lead, api.Amber: g.Amber, api.Red: math.MaxInt32, api.Green: math.MaxInt32}[aspect]
		if most == 0 {
			aspect, most = api.Red, math.MaxInt32
		}
		count := func() int32 { return pick(r, 1, 1+r.Int31n(9), math.MaxInt32-1, math.MaxInt32) }
		in, away := min(count(), int32(most)), count()
		if aspect == api.Green {
			away = 0
		}
		h.Aspect, h.In, h.Away = append(h.Aspect, aspect), append(h.In, in), append(h.Away, away)
	}
	return h
}
