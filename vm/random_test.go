package vm_test

// Plans, images, states and inputs at random.

import (
	"fmt"
	"math/rand"
	"slices"
	"strings"

	"junction/api"
)

// maker makes expressions and statements over so many things of each sort.
type maker struct {
	r                                    *rand.Rand
	groups, dets, timers, counters, vars int
}

func leaf(op int, val int32) []api.Node { return []api.Node{{Op: op, Val: val}} }

// over is an operator with its operands.
func over(op int, operands ...[]api.Node) []api.Node {
	return append(slices.Concat(operands...), api.Node{Op: op})
}

// number is often a small one, or at the edges of the small ones.
func (m *maker) number() int32 {
	r := m.r
	return pick(r, 0, 1, 2, 3, -1, r.Int31n(10), 127, 128, -128, -129, 1000, r.Int31n(600)-300, int32(r.Uint32()), most, least)
}

// expr is an expression of a type and of at most that many nodes.
func (m *maker) expr(typ, size int) []api.Node {
	if size < 2 {
		return m.leaf(typ)
	}
	if size == 2 || m.r.Intn(6) == 0 {
		return over(m.unary(typ), m.expr(typ, size-1))
	}
	op := pick(m.r, m.binaries(typ)...)
	takes := api.TyInt
	if op == api.OpAnd || op == api.OpOr || (op == api.OpEq || op == api.OpNe) && m.r.Intn(2) == 0 {
		takes = api.TyBool
	}
	first := 1 + m.r.Intn(size-2)
	return over(op, m.expr(takes, first), m.expr(takes, size-1-first))
}

func (m *maker) unary(typ int) int {
	if typ == api.TyBool {
		return api.OpNot
	}
	return pick(m.r, api.OpNeg, api.OpAbs)
}

func (m *maker) binaries(typ int) []int {
	if typ == api.TyBool {
		return []int{api.OpEq, api.OpNe, api.OpLt, api.OpLe, api.OpGt, api.OpGe, api.OpAnd, api.OpOr, api.OpAnd, api.OpOr}
	}
	return []int{api.OpAdd, api.OpSub, api.OpMul, api.OpDiv, api.OpRem, api.OpMin, api.OpMax}
}

func (m *maker) leaf(typ int) []api.Node {
	rows := [][2]int{{api.OpInt, 0}, {api.OpElapsed, 1}, {api.OpVar, m.vars}, {api.OpTimer, m.timers}, {api.OpCounter, m.counters}}
	if typ == api.TyBool {
		rows = [][2]int{{api.OpBool, 2}, {api.OpGreen, m.groups}, {api.OpRed, m.groups}, {api.OpDet, m.dets}}
	}
	for {
		row := pick(m.r, rows...)
		switch {
		case row[0] == api.OpInt:
			return leaf(api.OpInt, m.number())
		case row[1] > 0:
			return leaf(row[0], m.r.Int31n(int32(row[1])))
		}
	}
}

// list has ifs in one another, as deep as that.
func (m *maker) list(deep int) []api.Stmt {
	var list []api.Stmt
	for range m.r.Intn(4) {
		if s, ok := m.statement(); ok {
			list = append(list, s)
		}
		if deep > 0 && m.r.Intn(3) == 0 {
			list = append(list, api.Stmt{Kind: api.StIf, Expr: m.expr(api.TyBool, 1+m.r.Intn(6))})
			list = append(list, m.list(deep-1)...)
			if m.r.Intn(2) == 0 {
				list = append(append(list, api.Stmt{Kind: api.StElse}), m.list(deep-1)...)
			}
			list = append(list, api.Stmt{Kind: api.StEnd})
		}
	}
	return list
}

func (m *maker) statement() (api.Stmt, bool) {
	kind := pick(m.r, api.StSet, api.StSet, api.StSet, api.StReset, api.StRun, api.StRun, api.StStop, api.StCount, api.StCount, api.StZero, api.StClear)
	count := m.timers
	switch kind {
	case api.StSet:
		count = m.vars
	case api.StCount, api.StZero:
		count = m.counters
	case api.StClear:
		count = m.dets
	}
	if count == 0 {
		return api.Stmt{}, false
	}
	s := api.Stmt{Kind: kind, Ix: m.r.Intn(count)}
	if kind == api.StSet {
		s.Expr = m.expr(api.TyInt, 1+m.r.Intn(7))
	}
	return s, true
}

// tables have small numbers, so that much happens in few ticks.
func (m *maker) tables() api.Tables {
	var x api.Tables
	r, dense := m.r, 1+m.r.Intn(5)
	for a := range m.groups {
		x.Groups = append(x.Groups, api.Group{Name: fmt.Sprint("g", a), Sort: 1 + a%2, Min: 1 + r.Intn(4), Amber: r.Intn(3), Lead: r.Intn(3)})
		for b := a + 1; b < m.groups; b++ {
			if r.Intn(dense) == 0 {
				x.Conflicts = append(x.Conflicts, api.Conflict{A: a, B: b, AB: r.Intn(4), BA: r.Intn(4)})
			}
		}
	}
	return x
}

func (m *maker) detectors() []api.Det {
	var list []api.Det
	for i := range m.dets {
		list = append(list, api.Det{Name: fmt.Sprint("d", i), Latch: m.r.Intn(2) == 0, Delay: pick(m.r, 0, 0, 1, 2, 3600), Hold: pick(m.r, 0, 0, 1, 3, 3600)})
	}
	return list
}

// green mostly has no two groups that conflict: with them a stage never arrives.
func (m *maker) green(t api.Tables) uint64 {
	mask := m.r.Uint64() & (1<<len(t.Groups) - 1)
	for _, c := range t.Conflicts {
		if mask>>c.A&1 == 1 && mask>>c.B&1 == 1 && m.r.Intn(20) > 0 {
			mask &^= 1 << pick(m.r, c.A, c.B)
		}
	}
	return mask
}

// anyTyped is a sound typed plan.
func anyTyped(r *rand.Rand) api.Typed {
	m := &maker{r: r, groups: r.Intn(5), dets: r.Intn(4), timers: r.Intn(3), counters: r.Intn(3), vars: r.Intn(5)}
	x := api.Typed{Name: "p", Tables: m.tables(), Dets: m.detectors()}
	for i := range m.timers {
		x.Timers = append(x.Timers, fmt.Sprint("t", i))
	}
	for i := range m.counters {
		x.Counters = append(x.Counters, fmt.Sprint("c", i))
	}
	for i := range m.vars {
		x.Vars = append(x.Vars, api.Var{Name: fmt.Sprint("v", i), Init: m.number()})
	}
	count, id := 1+r.Intn(6), 0
	for i := range count {
		id += pick(r, 0, 0, 0, 1, 7)
		x.Stages = append(x.Stages, api.TStage{Name: fmt.Sprint("s", i), Id: id, Green: m.green(x.Tables), Enter: m.list(2), During: m.list(2), Leave: m.list(2), Nexts: m.nexts(i, count)})
		id++
	}
	x.Start = r.Intn(count)
	return x
}

func (m *maker) nexts(place, count int) []api.TNext {
	var list []api.TNext
	for range m.r.Intn(5) {
		if to := m.r.Intn(count); to != place {
			list = append(list, api.TNext{To: to, When: m.guard()})
		}
	}
	return list
}

func (m *maker) guard() []api.Node {
	switch m.r.Intn(4) {
	case 0:
		return leaf(api.OpBool, m.r.Int31n(2))
	case 1:
		return over(api.OpGe, leaf(api.OpElapsed, 0), leaf(api.OpInt, m.r.Int31n(4)))
	}
	return m.expr(api.TyBool, 1+m.r.Intn(7))
}

// wild writes sections in which nothing is wrong, with jumps over one another as no plan's code has them.
type wild struct {
	maker
	image   api.Image
	open    []open
	content string // what is on the stack here, a letter a word: n or t
	comes   bool   // whether anything comes here
	high    int    // how high the stack may be
}

// open is a jump that has no end yet.
type open struct {
	place   int
	content string
}

// anyWild is an image of wild sections.
func anyWild(r *rand.Rand) api.Image {
	w := &wild{high: pick(r, 1, 2, 3, 5, 70)}
	w.maker = maker{r: r, groups: 1 + r.Intn(5), dets: 1 + r.Intn(6), timers: 2, counters: 3, vars: 4}
	w.image = api.Image{Name: "p", Tables: w.tables(), Dets: w.detectors(), Timers: w.timers, Counters: w.counters}
	for range w.vars {
		w.image.Vars = append(w.image.Vars, w.number())
	}
	for range 5 {
		w.image.Pool = append(w.image.Pool, w.number())
	}
	id := 0
	w.image.Slots = make([]api.Slot, 1+r.Intn(4))
	for i := range w.image.Slots {
		id += pick(r, 0, 0, 1, 7)
		w.image.Slots[i] = api.Slot{Id: id, Green: w.green(w.image.Tables), Enter: w.section(i, false), Tick: w.section(i, true), Leave: w.section(i, false)}
		id++
	}
	w.image.Start = r.Intn(len(w.image.Slots))
	w.image.Depth = w.high + pick(r, 0, 0, 1, 60000)
	return w.image
}

// section writes one and answers its entry.
func (w *wild) section(slot int, tick bool) int {
	from, size := len(w.image.Code), pick(w.r, 0, 3, 8, 20, 40)
	w.content, w.comes = "", true
	if w.high > 5 && w.r.Intn(2) == 0 {
		for range w.high - 3 {
			w.leaf()
		}
	}
	for w.comes || len(w.open) > 0 {
		w.land()
		if len(w.image.Code)-from < size {
			w.any(slot, tick)
		} else {
			w.drain(slot, tick)
		}
	}
	return from
}

// land lets jumps end here that bring what is on the stack, or, where nothing comes, any that bring the same.
func (w *wild) land() {
	must := -1
	if !w.comes {
		must = w.r.Intn(len(w.open))
		w.content, w.comes = w.open[must].content, true
	}
	var rest []open
	for i, o := range w.open {
		if i == must || o.content == w.content && w.r.Intn(2) == 0 {
			w.image.Code[o.place].Arg = int32(len(w.image.Code))
		} else {
			rest = append(rest, o)
		}
	}
	w.open = rest
}

func (w *wild) write(word string, arg int) {
	w.image.Code = append(w.image.Code, api.Instr{Op: codes[word], Arg: int32(arg)})
}

// jump writes one whose end is chosen later.
func (w *wild) jump(word, content string) {
	w.open = append(w.open, open{len(w.image.Code), content})
	w.write(word, 0)
}

// become takes so many words off the stack and puts others on.
func (w *wild) become(takes int, puts string) {
	w.content = w.content[:len(w.content)-takes] + puts
}

// room is how many there are of what an instruction's Arg names.
func (w *wild) room(word string) int {
	return map[string]int{
		"const": len(w.image.Pool), "small": 100, "elapsed": 1, "truth": 2, "var": w.vars, "store": w.vars,
		"timer": w.timers, "reset": w.timers, "run": w.timers, "stop": w.timers, "counter": w.counters, "zero": w.counters, "count": w.counters,
		"det": w.dets, "clear": w.dets, "green": w.groups, "red": w.groups,
	}[word]
}

// about writes an instruction about any of its things.
func (w *wild) about(word string) { w.write(word, w.r.Intn(w.room(word))) }

func (w *wild) leaf() {
	if w.r.Intn(2) == 0 {
		w.about(pick(w.r, "const", "small", "elapsed", "var", "timer", "counter"))
		w.become(0, "n")
	} else {
		w.about(pick(w.r, "truth", "det", "green", "red"))
		w.become(0, "t")
	}
}

// any writes some instruction that may stand here.
func (w *wild) any(slot int, tick bool) {
	top := w.content[max(0, len(w.content)-2):]
	choice := w.r.Intn(12)
	switch {
	case choice < 3 && len(w.content) < w.high:
		w.leaf()
	case choice < 5 && len(top) == 2 && top[0] == top[1]:
		w.operator(top)
	case choice < 6 && strings.HasSuffix(top, "n"):
		w.write(pick(w.r, "neg", "abs"), 0)
	case choice < 7 && strings.HasSuffix(top, "n"):
		w.about("store")
		w.become(1, "")
	case choice < 10 && strings.HasSuffix(top, "t"):
		w.truth()
	case choice == 10 && w.r.Intn(3) == 0:
		w.jump("jump", w.content)
		w.comes = false
	case choice == 11 && top == "" && tick && len(w.image.Slots) > 1:
		w.pick(slot)
	default:
		w.about(pick(w.r, "reset", "zero", "run", "stop", "count", "clear"))
	}
}

// operator is one of two operands, of the kind that is on top.
func (w *wild) operator(top string) {
	puts, list := "t", []string{"and", "or", "eq", "ne"}
	if top == "nn" {
		list = []string{"eq", "ne", "lt", "le", "gt", "ge"}
		if w.r.Intn(2) == 0 {
			puts, list = "n", []string{"add", "sub", "mul", "div", "rem", "min", "max"}
		}
	}
	w.write(pick(w.r, list...), 0)
	w.become(2, puts)
}

// truth does something with the truth that is topmost.
func (w *wild) truth() {
	rest := w.content[:len(w.content)-1]
	switch w.r.Intn(4) {
	case 0:
		w.write("not", 0)
		return
	case 1:
		w.jump("if", rest)
	default:
		w.jump(pick(w.r, "andjump", "orjump"), w.content)
	}
	w.content = rest
}

// pick ends a section with a pick of another slot.
func (w *wild) pick(slot int) {
	slots := len(w.image.Slots)
	w.write("pick", (slot+1+w.r.Intn(slots-1))%slots)
	w.comes = false
}

// drain takes the topmost word off the stack, or ends.
func (w *wild) drain(slot int, tick bool) {
	switch {
	case w.content == "" && tick && len(w.image.Slots) > 1 && w.r.Intn(2) == 0:
		w.pick(slot)
	case w.content == "":
		w.write("end", 0)
		w.comes = false
	case strings.HasSuffix(w.content, "n"):
		w.about("store")
		w.become(1, "")
	default:
		w.write("if", len(w.image.Code)+1)
		w.become(1, "")
	}
}

// anyIns are inputs whose bits stay for a while; also those of no detector.
func anyIns(r *rand.Rand, count int) []uint64 {
	ins, lasts := make([]uint64, count), pick(r, 1, 3, 8)
	for i := range ins {
		if i > 0 && r.Intn(lasts) > 0 {
			ins[i] = ins[i-1]
		} else {
			ins[i] = pick(r, 0, r.Uint64(), r.Uint64()&r.Uint64(), ^uint64(0))
		}
	}
	return ins
}

// anyMeter is a count at its edges, or a small one.
func anyMeter(r *rand.Rand) int32 {
	return pick(r, 0, 1, r.Int31n(10), r.Int31n(10), most-1, most)
}

// anyState is a state of the image, mostly such as no run comes to.
func anyState(r *rand.Rand, m api.Image) api.State {
	s := api.State{Tick: pick(r, 1, 2, 1+r.Intn(100), last-1, last), Stage: pick(r, m.Slots...).Id, Target: -1, Elapsed: anyMeter(r)}
	slot := pick(r, m.Slots...)
	if r.Intn(2) == 0 && calm(m.Tables, slot.Green) {
		s.Stage, s.Heads = slot.Id, anyHeads(r, m.Tables, func(g int) int { return int(slot.Green >> g & 1 * api.Green) })
	} else {
		s.Stage, s.Target, s.Heads = pick(r, s.Stage, -1), slot.Id, anyHeads(r, m.Tables, func(int) int { return r.Intn(4) })
	}
	for range m.Vars {
		s.Vars = append(s.Vars, pick(r, r.Int31n(9), int32(r.Uint32()), least, most))
	}
	for range m.Timers {
		s.Timers = append(s.Timers, api.Timer{Value: anyMeter(r), Running: r.Intn(2) == 0})
	}
	for range m.Counters {
		s.Counters = append(s.Counters, anyMeter(r))
	}
	for _, d := range m.Dets {
		s.Dets = append(s.Dets, api.DetState{Run: anyMeter(r), Left: anyMeter(r), On: r.Intn(2) == 0, Mem: d.Latch && r.Intn(2) == 0})
	}
	return s
}

func calm(t api.Tables, mask uint64) bool {
	for _, c := range t.Conflicts {
		if mask>>c.A&1 == 1 && mask>>c.B&1 == 1 {
			return false
		}
	}
	return true
}

// anyHeads are sound; a group whose aspect cannot be is red.
func anyHeads(r *rand.Rand, t api.Tables, aspectOf func(int) int) api.Heads {
	var h api.Heads
	for i, g := range t.Groups {
		aspect := aspectOf(i)
		for _, c := range t.Conflicts {
			if c.B == i && h.Aspect[c.A] != api.Red {
				aspect = api.Red
			}
		}
		longest := map[int]int{api.Lead: g.Lead, api.Amber: g.Amber, api.Red: most, api.Green: most}[aspect]
		if longest == 0 {
			aspect, longest = api.Red, most
		}
		count := func() int32 { return pick(r, 1, 1+r.Int31n(9), most-1, most) }
		in, away := min(count(), int32(longest)), count()
		if aspect == api.Green {
			away = 0
		}
		h.Aspect, h.In, h.Away = append(h.Aspect, aspect), append(h.In, in), append(h.Away, away)
	}
	return h
}
