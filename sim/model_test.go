package sim_test

// A second way to what a plan means: each tick makes a new state from the old one, over the plan as it stands; expressions are taken apart from their roots, lists from their first statement on.

import (
	"math"
	"slices"

	"junction/api"
	"junction/arith"
	"junction/check"
	"junction/heads"
)

type model struct {
	x    api.Typed
	s    api.State
	seen map[string]int // how often what has happened
}

// modelStart is the state at the beginning.
func modelStart(x api.Typed) api.State {
	s := api.State{Stage: -1, Target: x.Stages[x.Start].Id, Timers: make([]api.Timer, len(x.Timers)), Counters: make([]int32, len(x.Counters)), Dets: make([]api.DetState, len(x.Dets))}
	for range x.Tables.Groups {
		s.Heads = api.Heads{Aspect: append(s.Heads.Aspect, api.Red), In: append(s.Heads.In, 1), Away: append(s.Heads.Away, 1)}
	}
	for _, v := range x.Vars {
		s.Vars = append(s.Vars, v.Init)
	}
	return s
}

// modelTick is the state behind a tick, and its entry.
func modelTick(x api.Typed, s api.State, in uint64, seen map[string]int) (api.State, api.Entry) {
	m := &model{x: x, s: copied(s), seen: seen}
	for i := range x.Dets {
		m.s.Dets[i] = arith.Sense(x.Dets[i], m.s.Dets[i], in&(1<<i) != 0)
	}
	for i, t := range m.s.Timers {
		if t.Running {
			m.s.Timers[i].Value = up(t.Value)
		}
	}
	first, moving := m.s.Tick == 0, m.s.Target != -1
	if !first {
		want := m.stage(m.s.Stage).Green
		if moving {
			want = m.stage(m.s.Target).Green
		}
		m.s.Heads, _ = heads.Step(x.Tables, m.s.Heads, want)
	}
	if moving && !first && m.settled(m.stage(m.s.Target).Green) {
		m.seen["arrival"]++
		m.s.Stage, m.s.Target, m.s.Elapsed = m.s.Target, -1, 0
		m.block(m.stage(m.s.Stage).Enter, 0, true)
	} else if !moving {
		m.s.Elapsed = up(m.s.Elapsed)
	}
	entry := api.Entry{Heads: heads.Show(m.s.Heads), Stage: -1}
	if m.s.Target == -1 {
		entry.Stage = m.s.Stage
		m.stay(m.stage(m.s.Stage))
	}
	if m.s.Tick != math.MaxInt {
		m.s.Tick++
	}
	return m.s, entry
}

func up(n int32) int32 { return int32(min(int64(n)+1, math.MaxInt32)) }

func (m *model) stage(id int) api.TStage {
	for _, s := range m.x.Stages {
		if s.Id == id {
			return s
		}
	}
	return api.TStage{}
}

func (m *model) settled(want uint64) bool {
	for g, aspect := range m.s.Heads.Aspect {
		if want>>g&1 == 1 && aspect != api.Green || want>>g&1 == 0 && aspect != api.Red {
			return false
		}
	}
	return true
}

// stay is what a steady stage does behind the entry.
func (m *model) stay(here api.TStage) {
	m.block(here.During, 0, true)
	at := slices.IndexFunc(here.Nexts, func(n api.TNext) bool { return m.value(n.When) == 1 })
	if at < 0 {
		m.seen["no next"]++
		return
	}
	to := m.x.Stages[here.Nexts[at].To]
	for g, row := range m.x.Tables.Groups {
		if m.s.Heads.Aspect[g] == api.Green && to.Green>>g&1 == 0 && int(m.s.Heads.In[g]) < row.Min {
			m.seen["shut gate"]++
			return
		}
	}
	m.seen["leave"]++
	m.block(here.Leave, 0, true)
	m.s.Target = to.Id
}

// block runs, if it is live, the statements from i on up to the end of their block, and tells where that is.
func (m *model) block(list []api.Stmt, i int, live bool) int {
	for ; i < len(list) && list[i].Kind != api.StElse && list[i].Kind != api.StEnd; i++ {
		if list[i].Kind != api.StIf {
			if live {
				m.do(list[i])
			}
			continue
		}
		yes := live && m.value(list[i].Expr) == 1
		i = m.block(list, i+1, yes)
		if list[i].Kind == api.StElse {
			m.seen["else"]++
			i = m.block(list, i+1, live && !yes)
		}
	}
	return i
}

func (m *model) do(s api.Stmt) {
	m.seen[map[int]string{api.StSet: "set", api.StReset: "reset", api.StZero: "zero", api.StRun: "run", api.StStop: "stop", api.StCount: "count", api.StClear: "clear"}[s.Kind]]++
	switch s.Kind {
	case api.StSet:
		m.s.Vars[s.Ix] = m.value(s.Expr)
	case api.StReset:
		m.s.Timers[s.Ix].Value = 0
	case api.StRun, api.StStop:
		m.s.Timers[s.Ix].Running = s.Kind == api.StRun
	case api.StCount:
		m.s.Counters[s.Ix] = up(m.s.Counters[s.Ix])
	case api.StZero:
		m.s.Counters[s.Ix] = 0
	case api.StClear:
		m.s.Dets[s.Ix].Mem = false
	}
}

// value is that of the whole expression.
func (m *model) value(e []api.Node) int32 {
	v, _ := m.root(e)
	return v
}

// root is the value of the tree that ends the list, and what stands ahead of it.
func (m *model) root(e []api.Node) (int32, []api.Node) {
	n, rest := e[len(e)-1], e[:len(e)-1]
	if n.Op < 20 {
		return m.leaf(n), rest
	}
	b, rest := m.root(rest)
	if n.Op < 30 {
		return modelUnary(n.Op, b), rest
	}
	a, rest := m.root(rest)
	return modelBinary(n.Op, int64(a), int64(b)), rest
}

func (m *model) leaf(n api.Node) int32 {
	switch n.Op {
	case api.OpElapsed:
		return m.s.Elapsed
	case api.OpGreen:
		return bit(m.s.Heads.Aspect[n.Val] == api.Green)
	case api.OpRed:
		return bit(m.s.Heads.Aspect[n.Val] == api.Red)
	case api.OpVar:
		return m.s.Vars[n.Val]
	case api.OpTimer:
		return m.s.Timers[n.Val].Value
	case api.OpCounter:
		return m.s.Counters[n.Val]
	case api.OpDet:
		return bit(m.s.Dets[n.Val].On || m.x.Dets[n.Val].Latch && m.s.Dets[n.Val].Mem)
	}
	return n.Val
}

func bit(is bool) int32 {
	if is {
		return 1
	}
	return 0
}

func modelUnary(op int, a int32) int32 {
	switch {
	case op == api.OpNot:
		return bit(a == 0)
	case op == api.OpAbs && a >= 0:
		return a
	}
	return int32(-int64(a))
}

// modelBinary counts with whole numbers, and wraps in the end.
func modelBinary(op int, a, b int64) int32 {
	switch op {
	case api.OpAdd:
		return int32(a + b)
	case api.OpSub:
		return int32(a - b)
	case api.OpMul:
		return int32(a * b)
	case api.OpDiv, api.OpRem:
		switch {
		case b == 0:
			return 0
		case op == api.OpDiv:
			return int32(a / b)
		}
		return int32(a % b)
	case api.OpMin:
		return int32(min(a, b))
	case api.OpMax:
		return int32(max(a, b))
	case api.OpEq:
		return bit(a == b)
	case api.OpNe:
		return bit(a != b)
	case api.OpLt:
		return bit(a < b)
	case api.OpLe:
		return bit(a <= b)
	case api.OpGt:
		return bit(a > b)
	case api.OpGe:
		return bit(a >= b)
	case api.OpAnd:
		return bit(a != 0 && b != 0)
	}
	return bit(a != 0 || b != 0)
}

// modelOk tells by the chapter's words whether a state is of a plan.
func modelOk(x api.Typed, s api.State) bool {
	if !check.Sound(x) || s.Tick < 0 || s.Elapsed < 0 {
		return false
	}
	greens := map[int]uint64{}
	for _, t := range x.Stages {
		greens[t.Id] = t.Green
	}
	green, known := greens[s.Stage]
	_, goes := greens[s.Target]
	if s.Target != -1 && !goes || !known && (s.Stage != -1 || s.Target == -1) || !heads.Sound(x.Tables, s.Heads) {
		return false
	}
	if m := (&model{x: x, s: s}); s.Target == -1 && !m.settled(green) {
		return false
	}
	if len(s.Vars) != len(x.Vars) || len(s.Timers) != len(x.Timers) || len(s.Counters) != len(x.Counters) || len(s.Dets) != len(x.Dets) {
		return false
	}
	for _, t := range s.Timers {
		if t.Value < 0 {
			return false
		}
	}
	for _, c := range s.Counters {
		if c < 0 {
			return false
		}
	}
	for i, d := range s.Dets {
		if d.Run < 0 || d.Left < 0 || d.Mem && !x.Dets[i].Latch {
			return false
		}
	}
	return s.Tick > 0 || same(s, modelStart(x))
}
