package load_test

// Plans at random, sections at random, and images that have something wrong.

import (
	"fmt"
	"math/rand"
	"slices"
	"strings"

	"junction/api"
)

// maker makes expressions and statements over so many things of each sort.
type maker struct {
	r                                    *rand.Rand
	groups, dets, timers, counters, vars int
}

// fullMaker is over all that a plan may have.
func fullMaker(r *rand.Rand) *maker {
	return &maker{r: r, groups: 64, dets: 64, timers: 64, counters: 64, vars: 64}
}

func leaf(op int, val int32) []api.Node { return []api.Node{{Op: op, Val: val}} }

// over is an operator with its operands.
func over(op int, operands ...[]api.Node) []api.Node {
	return append(slices.Concat(operands...), api.Node{Op: op})
}

// number is often at the edges of the small ones, and often one that has been there already.
func (m *maker) number() int32 {
	r := m.r
	return pick(r, 0, 1, 2, -1, 127, 128, -128, -129, 126, 129, 1000, 1001, 70000, r.Int31n(20)-10, r.Int31n(600)-300, int32(r.Uint32()), most, least, least+1, 65536)
}

// expr is an expression of a type and of at most that many nodes.
func (m *maker) expr(typ, size int) []api.Node {
	if size < 2 {
		return m.leaf(typ)
	}
	if size == 2 || m.r.Intn(6) == 0 {
		return over(m.unary(typ), m.expr(typ, size-1))
	}
	op := pick(m.r, m.binaries(typ)...)
	takes := api.TyInt
	if op == api.OpAnd || op == api.OpOr || (op == api.OpEq || op == api.OpNe) && m.r.Intn(2) == 0 {
		takes = api.TyBool
	}
	first := 1 + m.r.Intn(size-2)
	return over(op, m.expr(takes, first), m.expr(takes, size-1-first))
}

func (m *maker) unary(typ int) int {
	if typ == api.TyBool {
		return api.OpNot
	}
	return pick(m.r, api.OpNeg, api.OpAbs)
}

func (m *maker) binaries(typ int) []int {
	if typ == api.TyBool {
		return []int{api.OpEq, api.OpNe, api.OpLt, api.OpLe, api.OpGt, api.OpGe, api.OpAnd, api.OpOr, api.OpAnd, api.OpOr, api.OpAnd, api.OpOr}
	}
	return []int{api.OpAdd, api.OpSub, api.OpMul, api.OpDiv, api.OpRem, api.OpMin, api.OpMax}
}

func (m *maker) leaf(typ int) []api.Node {
	rows := [][2]int{{api.OpInt, 0}, {api.OpInt, 0}, {api.OpElapsed, 1}, {api.OpVar, m.vars}, {api.OpTimer, m.timers}, {api.OpCounter, m.counters}}
	if typ == api.TyBool {
		rows = [][2]int{{api.OpBool, 2}, {api.OpGreen, m.groups}, {api.OpRed, m.groups}, {api.OpDet, m.dets}}
	}
	for {
		row := pick(m.r, rows...)
		switch {
		case row[0] == api.OpInt:
			return leaf(api.OpInt, m.number())
		case row[1] > 0:
			return leaf(row[0], m.r.Int31n(int32(row[1])))
		}
	}
}

// list has ifs in one another, as deep as that.
func (m *maker) list(deep int) []api.Stmt {
	var list []api.Stmt
	for range m.r.Intn(4) {
		if s, ok := m.statement(); ok {
			list = append(list, s)
		}
		if deep > 0 && m.r.Intn(2) == 0 {
			list = append(list, api.Stmt{Kind: api.StIf, Expr: m.expr(api.TyBool, 1+m.r.Intn(6))})
			list = append(list, m.list(deep-1)...)
			if m.r.Intn(2) == 0 {
				list = append(append(list, api.Stmt{Kind: api.StElse}), m.list(deep-1)...)
			}
			list = append(list, api.Stmt{Kind: api.StEnd})
		}
	}
	return list
}

func (m *maker) statement() (api.Stmt, bool) {
	kind := pick(m.r, api.StSet, api.StSet, api.StSet, api.StReset, api.StRun, api.StStop, api.StCount, api.StZero, api.StClear)
	count := m.timers
	switch kind {
	case api.StSet:
		count = m.vars
	case api.StCount, api.StZero:
		count = m.counters
	case api.StClear:
		count = m.dets
	}
	if count == 0 {
		return api.Stmt{}, false
	}
	s := api.Stmt{Kind: kind, Ix: m.r.Intn(count)}
	if kind == api.StSet {
		s.Expr = m.expr(api.TyInt, 1+m.r.Intn(7))
	}
	return s, true
}

// things are those of the maker, without stages.
func (m *maker) things() api.Typed {
	x := api.Typed{Name: "p"}
	for i := range m.groups {
		x.Tables.Groups = append(x.Tables.Groups, api.Group{Name: fmt.Sprint("g", i), Sort: 1 + i%2, Min: 1 + m.r.Intn(4), Amber: m.r.Intn(3), Lead: m.r.Intn(3)})
	}
	for i := range m.dets {
		x.Dets = append(x.Dets, api.Det{Name: fmt.Sprint("d", i), Latch: m.r.Intn(2) == 0, Delay: pick(m.r, 0, 0, 1, 2), Hold: pick(m.r, 0, 0, 1, 3)})
	}
	for i := range m.timers {
		x.Timers = append(x.Timers, fmt.Sprint("t", i))
	}
	for i := range m.counters {
		x.Counters = append(x.Counters, fmt.Sprint("c", i))
	}
	for i := range m.vars {
		x.Vars = append(x.Vars, api.Var{Name: fmt.Sprint("v", i), Init: m.number()})
	}
	return x
}

// anyTyped is a sound typed plan.
func anyTyped(r *rand.Rand) api.Typed {
	m := &maker{r: r, groups: r.Intn(5), dets: r.Intn(4), timers: r.Intn(3), counters: r.Intn(3), vars: r.Intn(5)}
	x := m.things()
	dense := 1 + r.Intn(5)
	for a := range m.groups {
		for b := a + 1; b < m.groups; b++ {
			if r.Intn(dense) == 0 {
				x.Tables.Conflicts = append(x.Tables.Conflicts, api.Conflict{A: a, B: b, AB: r.Intn(4), BA: r.Intn(4)})
			}
		}
	}
	count, id := 1+r.Intn(6), 0
	for i := range count {
		id += pick(r, 0, 0, 0, 1, 7)
		x.Stages = append(x.Stages, api.TStage{Name: fmt.Sprint("s", i), Id: id, Green: anyGreen(r, x.Tables), Enter: m.list(2), During: m.list(2), Leave: m.list(2), Nexts: m.nexts(i, count)})
		id++
	}
	x.Start = r.Intn(count)
	return x
}

// anyGreen mostly has no two groups that conflict: with them a stage never arrives.
func anyGreen(r *rand.Rand, t api.Tables) uint64 {
	mask := r.Uint64() & (1<<len(t.Groups) - 1)
	for _, c := range t.Conflicts {
		if mask>>c.A&1 == 1 && mask>>c.B&1 == 1 && r.Intn(20) > 0 {
			mask &^= 1 << pick(r, c.A, c.B)
		}
	}
	return mask
}

func (m *maker) nexts(place, count int) []api.TNext {
	var list []api.TNext
	for range m.r.Intn(5) {
		if to := m.r.Intn(count); to != place {
			list = append(list, api.TNext{To: to, When: m.guard()})
		}
	}
	return list
}

func (m *maker) guard() []api.Node {
	switch m.r.Intn(4) {
	case 0:
		return leaf(api.OpBool, m.r.Int31n(2))
	case 1:
		return over(api.OpGe, leaf(api.OpElapsed, 0), leaf(api.OpInt, m.r.Int31n(3)))
	}
	return m.expr(api.TyBool, 1+m.r.Intn(7))
}

// wild writes sections in which nothing is wrong, with jumps over one another as no plan's code has them.
type wild struct {
	r       *rand.Rand
	image   api.Image
	open    []open
	content string // what is on the stack here, a letter a word
	comes   bool   // whether anything comes here
	high    int    // how high the stack may be
	slots   int
}

// open is a jump that has no end yet.
type open struct {
	place   int
	content string
}

// anyWild is an image of wild sections.
func anyWild(r *rand.Rand) api.Image {
	w := &wild{r: r, high: pick(r, 1, 2, 3, 5, 70, 140), slots: 1 + r.Intn(3)}
	w.image = rich("end; end; end")
	w.image.Code, w.image.Slots = nil, nil
	for i := range w.slots {
		s := api.Slot{Id: i}
		s.Enter, s.Tick, s.Leave = w.section(i, false), w.section(i, true), w.section(i, false)
		w.image.Slots = append(w.image.Slots, s)
	}
	w.image.Depth = w.high + pick(r, 0, 0, 1, 60000)
	return w.image
}

// section writes one and answers its entry.
func (w *wild) section(slot int, tick bool) int {
	from, size := len(w.image.Code), pick(w.r, 0, 3, 8, 20, 40)
	w.content, w.comes = "", true
	if w.high > 5 && w.r.Intn(2) == 0 {
		for range w.high - 3 {
			w.leaf()
		}
	}
	for w.comes || len(w.open) > 0 {
		w.land()
		if len(w.image.Code)-from < size {
			w.any(slot, tick)
		} else {
			w.drain()
		}
	}
	return from
}

// land lets jumps end here that bring what is on the stack, or, where nothing comes, any that bring the same.
func (w *wild) land() {
	must := -1
	if !w.comes {
		must = w.r.Intn(len(w.open))
		w.content, w.comes = w.open[must].content, true
	}
	var rest []open
	for i, o := range w.open {
		if i == must || o.content == w.content && w.r.Intn(2) == 0 {
			w.image.Code[o.place].Arg = int32(len(w.image.Code))
		} else {
			rest = append(rest, o)
		}
	}
	w.open = rest
}

func (w *wild) write(word string, arg int) {
	w.image.Code = append(w.image.Code, api.Instr{Op: codes[word], Arg: int32(arg)})
}

// jump writes one whose end is chosen later.
func (w *wild) jump(word, content string) {
	w.open = append(w.open, open{len(w.image.Code), content})
	w.write(word, 0)
}

// become takes so many words off the stack and puts others on.
func (w *wild) become(takes int, puts string) {
	w.content = w.content[:len(w.content)-takes] + puts
}

func (w *wild) leaf() {
	word := pick(w.r, "const 5", "small 100", "elapsed 1", "var 4", "timer 2", "counter 3", "truth 2", "det 6", "green 7", "red 7")
	w.number(word)
	w.become(0, takes[codes[strings.Fields(word)[0]]][1])
}

// number writes an instruction with an Arg below the one that the text has.
func (w *wild) number(text string) {
	in := instruction(text)
	w.write(words[in.Op], w.r.Intn(int(in.Arg)))
}

// any writes some instruction that may stand here.
func (w *wild) any(slot int, tick bool) {
	top := w.content[max(0, len(w.content)-2):]
	choice := w.r.Intn(12)
	switch {
	case choice < 3 && len(w.content) < w.high:
		w.leaf()
	case choice < 5 && (top == "nn" || top == "tt"):
		w.write(pick(w.r, map[string][]string{"nn": {"add", "max", "eq", "lt", "ge", "ne"}, "tt": {"and", "or", "eq", "ne"}}[top]...), 0)
		w.become(2, takes[w.image.Code[len(w.image.Code)-1].Op][1])
	case choice < 6 && strings.HasSuffix(top, "n"):
		w.write(pick(w.r, "neg", "abs"), 0)
	case choice < 7 && strings.HasSuffix(top, "n"):
		w.number("store 4")
		w.become(1, "")
	case choice < 10 && strings.HasSuffix(top, "t"):
		w.truth()
	case choice == 10 && w.r.Intn(3) == 0:
		w.jump("jump", w.content)
		w.comes = false
	case choice == 11 && top == "" && tick && w.slots > 1:
		w.write("pick", (slot+1)%w.slots)
		w.comes = false
	default:
		w.number(pick(w.r, "reset 2", "zero 3", "run 2", "stop 2", "count 3", "clear 6"))
	}
}

// truth does something with the truth that is topmost.
func (w *wild) truth() {
	rest := w.content[:len(w.content)-1]
	switch w.r.Intn(4) {
	case 0:
		w.write("not", 0)
		return
	case 1:
		w.jump("if", rest)
	default:
		w.jump(pick(w.r, "andjump", "orjump"), w.content)
	}
	w.content = rest
}

// drain takes the topmost word off the stack, or ends.
func (w *wild) drain() {
	switch {
	case w.content == "":
		w.write("end", 0)
		w.comes = false
	case strings.HasSuffix(w.content, "n"):
		w.number("store 4")
		w.become(1, "")
	default:
		w.write("if", len(w.image.Code)+1)
		w.become(1, "")
	}
}

// twisted is an image with something in it changed that the check looks at.
func twisted(r *rand.Rand, m api.Image) api.Image {
	m = copied(m)
	i, j := r.Intn(len(m.Code)), r.Intn(len(m.Code))
	in := &m.Code[i]
	switch r.Intn(14) {
	case 0:
		m.Depth = r.Intn(4)
	case 1:
		*in = m.Code[j]
	case 2:
		*in, m.Code[j] = m.Code[j], *in
	case 3, 4:
		in.Arg = int32(pick(r, i-1, i, i+1, i+2, i+5, j, len(m.Code)-1, len(m.Code)))
	case 5, 6:
		in.Op = pick(r, in.Op-1, in.Op+1, api.InAnd, api.InOr, api.InEnd, api.InTruth, api.InSmall, api.OpEq)
	case 7:
		m.Code = slices.Delete(m.Code, i, i+1)
	case 8:
		m.Code = slices.Insert(m.Code, i, m.Code[j])
	case 9:
		s := &m.Slots[r.Intn(len(m.Slots))]
		entry := pick(r, &s.Enter, &s.Tick, &s.Leave)
		*entry = pick(r, *entry+1, *entry-1, 0, len(m.Code), j)
	case 10:
		m.Pool, m.Vars, m.Timers = m.Pool[:r.Intn(len(m.Pool)+1)], m.Vars[:r.Intn(len(m.Vars)+1)], r.Intn(m.Timers+1)
	case 11:
		m.Dets, m.Counters, m.Tables = m.Dets[:r.Intn(len(m.Dets)+1)], r.Intn(m.Counters+1), api.Tables{Groups: m.Tables.Groups[:r.Intn(len(m.Tables.Groups)+1)]}
	case 12:
		m.Slots = m.Slots[:1+r.Intn(len(m.Slots))]
	case 13:
		*in = pick(r, api.Instr{Op: api.InPick}, api.Instr{Op: api.InPick, Arg: 1}, api.Instr{Op: api.InConst, Arg: 4}, api.Instr{Op: api.InJump, Arg: int32(i + 2)}, api.Instr{Op: api.InClear})
	}
	return m
}
