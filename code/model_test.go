package code_test

// A second model of the chapter: trees are made of the lists, lengths are told ahead of writing, and a pool is searched from its beginning.

import (
	"fmt"
	"slices"
	"strings"

	"junction/api"
)

// branch is a node with its operands.
type branch struct {
	node api.Node
	kids []*branch
}

func branchOf(e []api.Node) *branch {
	b, left := takeBranch(e)
	if len(left) > 0 {
		panic("more than one tree")
	}
	return b
}

// takeBranch takes the tree off the list's end.
func takeBranch(e []api.Node) (*branch, []api.Node) {
	last := len(e) - 1
	b := &branch{node: e[last]}
	e = e[:last]
	for range operandsOf(b.node.Op) {
		var kid *branch
		kid, e = takeBranch(e)
		b.kids = slices.Insert(b.kids, 0, kid)
	}
	return b, e
}

func operandsOf(op int) int {
	switch {
	case op < 20:
		return 0
	case op < 30:
		return 1
	}
	return 2
}

func (b *branch) lasting() bool { return b.node.Op == 50 || b.node.Op == 51 }

// size is how many instructions the tree has: one a node.
func (b *branch) size() int {
	size := 1
	for _, kid := range b.kids {
		size += kid.size()
	}
	return size
}

// deep is the chapter's depth.
func (b *branch) deep() int {
	switch {
	case len(b.kids) == 0:
		return 1
	case len(b.kids) == 1:
		return b.kids[0].deep()
	case b.lasting():
		return max(b.kids[0].deep(), b.kids[1].deep())
	}
	return max(b.kids[0].deep(), 1+b.kids[1].deep())
}

// model is the code that has been written and the pool.
type model struct {
	from  int
	code  []api.Instr
	pool  []int32
	depth int
}

func (m *model) put(op, arg int) { m.code = append(m.code, api.Instr{Op: op, Arg: int32(arg)}) }

func (m *model) place() int { return m.from + len(m.code) }

func (m *model) word(w int32) {
	if -128 <= w && w <= 127 {
		m.put(130, int(w))
		return
	}
	if !slices.Contains(m.pool, w) {
		m.pool = append(m.pool, w)
	}
	m.put(129, slices.Index(m.pool, w))
}

func (m *model) expr(e []api.Node) {
	b := branchOf(e)
	m.depth = max(m.depth, b.deep())
	m.tree(b)
}

func (m *model) tree(b *branch) {
	end := m.place() + b.size()
	for i, kid := range b.kids {
		if b.lasting() && i == 1 {
			m.put(98+b.node.Op, end)
		}
		m.tree(kid)
	}
	val := int(b.node.Val)
	switch b.node.Op {
	case 1:
		m.word(b.node.Val)
	case 2:
		m.put(131, val)
	case 4:
		m.put(132, val)
	case 5:
		m.put(137, val)
	case 6:
		m.put(138, val)
	case 7, 8, 9, 10:
		m.put(126+b.node.Op, val)
	case 50, 51:
	default:
		m.put(b.node.Op, 0)
	}
}

// twig is a statement with its two parts.
type twig struct {
	stmt          api.Stmt
	first, second []twig
	parts         int // 2 with an else
}

// twigsOf takes statements off a list up to an else or an end, or to the list's end.
func twigsOf(l []api.Stmt) ([]twig, []api.Stmt) {
	var list []twig
	for len(l) > 0 && l[0].Kind != api.StElse && l[0].Kind != api.StEnd {
		one := twig{stmt: l[0], parts: 1}
		l = l[1:]
		if one.stmt.Kind == api.StIf {
			one.first, l = twigsOf(l)
			if l[0].Kind == api.StElse {
				one.parts = 2
				one.second, l = twigsOf(l[1:])
			}
			l = l[1:]
		}
		list = append(list, one)
	}
	return list, l
}

// sizeOf is how many instructions the statements have.
func sizeOf(list []twig) int {
	size := 0
	for _, one := range list {
		size += 1 + len(one.stmt.Expr)
		if one.stmt.Kind == api.StIf {
			size += sizeOf(one.first) + sizeOf(one.second) + one.parts - 1
		}
	}
	return size
}

func (m *model) body(l []api.Stmt) {
	list, left := twigsOf(l)
	if len(left) > 0 {
		panic("an end too many")
	}
	m.twigs(list)
}

func (m *model) twigs(list []twig) {
	ops := map[int]int{api.StSet: 139, api.StReset: 140, api.StZero: 141, api.StRun: 142, api.StStop: 143, api.StCount: 144, api.StClear: 145}
	for _, one := range list {
		end := m.place() + sizeOf([]twig{one})
		if len(one.stmt.Expr) > 0 {
			m.expr(one.stmt.Expr)
		}
		switch {
		case one.stmt.Kind != api.StIf:
			m.put(ops[one.stmt.Kind], one.stmt.Ix)
		case one.parts == 1:
			m.put(146, end)
			m.twigs(one.first)
		default:
			m.put(146, end-sizeOf(one.second))
			m.twigs(one.first)
			m.put(147, end)
			m.twigs(one.second)
		}
	}
}

// modelExpr is what Expr must answer of a sound expression.
func modelExpr(e []api.Node, at int, pool []int32) ([]api.Instr, []int32, api.Errno) {
	return modelOf(at, pool, len(e), func(m *model) { m.expr(e) })
}

// modelBody is what Body must answer of a sound list.
func modelBody(l []api.Stmt, at int, pool []int32) ([]api.Instr, []int32, api.Errno) {
	list, _ := twigsOf(l)
	return modelOf(at, pool, sizeOf(list), func(m *model) { m.body(l) })
}

func modelOf(at int, pool []int32, size int, write func(*model)) ([]api.Instr, []int32, api.Errno) {
	if at < 0 || at > 65536 || at+size > 65536 || len(pool) > 16384 {
		return nil, nil, 110
	}
	m := &model{from: at, pool: slices.Clone(pool)}
	write(m)
	if len(m.pool) > 16384 {
		return nil, nil, 110
	}
	return m.code, m.pool, 0
}

// modelImage is what Generate must answer of a sound plan.
func modelImage(t api.Typed) api.Image {
	w := &model{}
	m := api.Image{Name: t.Name, Tables: t.Tables, Dets: t.Dets, Timers: len(t.Timers), Counters: len(t.Counters), Start: t.Start}
	for _, v := range t.Vars {
		m.Vars = append(m.Vars, v.Init)
	}
	for _, s := range t.Stages {
		slot := api.Slot{Id: s.Id, Green: s.Green, Enter: w.place()}
		w.body(s.Enter)
		w.put(128, 0)
		slot.Tick = w.place()
		w.body(s.During)
		for _, n := range s.Nexts {
			w.expr(n.When)
			w.put(146, w.place()+2)
			w.put(150, n.To)
		}
		w.put(128, 0)
		slot.Leave = w.place()
		w.body(s.Leave)
		w.put(128, 0)
		m.Slots = append(m.Slots, slot)
	}
	m.Code, m.Pool, m.Depth = w.code, w.pool, w.depth
	return m
}

// modelList is what List must answer of a formed image.
func modelList(m api.Image) []string {
	names := map[int]string{}
	for word, op := range codes {
		names[op] = word
	}
	var b strings.Builder
	fmt.Fprintf(&b, "image %s: %d slots, %d instructions, %d constants, depth %d\n", m.Name, len(m.Slots), len(m.Code), len(m.Pool), m.Depth)
	for i, s := range m.Slots {
		fmt.Fprintf(&b, "slot %d: id %d, green %d, enter %d, tick %d, leave %d\n", i, s.Id, s.Green, s.Enter, s.Tick, s.Leave)
	}
	for i, w := range m.Pool {
		fmt.Fprintf(&b, "constant %d: %d\n", i, w)
	}
	for i, in := range m.Code {
		if in.Op < 128 || in.Op == 128 || in.Op == 132 {
			fmt.Fprintf(&b, "%d: %s\n", i, names[in.Op])
		} else {
			fmt.Fprintf(&b, "%d: %s %d\n", i, names[in.Op], in.Arg)
		}
	}
	return strings.Split(strings.TrimSuffix(b.String(), "\n"), "\n")
}
