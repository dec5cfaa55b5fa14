package check

import (
	"math"

	"junction/api"
)

// Back is a plan whose typed plan is t.
func Back(t api.Typed) (api.Plan, api.Errno) {
	if !Sound(t) || !writable(t) {
		return api.Plan{}, api.ErrTyped
	}
	b := backward{t}
	p := api.Plan{Name: t.Name}
	for _, g := range t.Tables.Groups {
		p.Decls = append(p.Decls, api.Decl{Kind: api.DeGroup, Name: g.Name, Sort: g.Sort, N: [3]int32{int32(g.Min), int32(g.Amber), int32(g.Lead)}})
	}
	for _, c := range t.Tables.Conflicts {
		p.Decls = append(p.Decls, api.Decl{Kind: api.DeConflict, Name: b.group(c.A), With: b.group(c.B), N: [3]int32{int32(c.AB), int32(c.BA)}})
	}
	for _, d := range t.Dets {
		p.Decls = append(p.Decls, api.Decl{Kind: api.DeDetector, Name: d.Name, Sort: latch(d), N: [3]int32{int32(d.Delay), int32(d.Hold)}})
	}
	for _, name := range t.Timers {
		p.Decls = append(p.Decls, api.Decl{Kind: api.DeTimer, Name: name})
	}
	for _, name := range t.Counters {
		p.Decls = append(p.Decls, api.Decl{Kind: api.DeCounter, Name: name})
	}
	for _, v := range t.Vars {
		p.Decls = append(p.Decls, api.Decl{Kind: api.DeVar, Name: v.Name, N: [3]int32{v.Init}})
	}
	for _, s := range t.Stages {
		p.Decls = append(p.Decls, api.Decl{Kind: api.DeStage, Name: s.Name, Stage: b.stage(s)})
	}
	p.Decls = append(p.Decls, api.Decl{Kind: api.DeStart, Name: t.Stages[t.Start].Name})
	return p, api.OK
}

// writable tells whether a sound typed plan is one that a source can have.
func writable(t api.Typed) bool {
	for i, s := range t.Stages {
		if s.Id != i {
			return false
		}
	}
	for _, v := range t.Vars {
		if v.Init == math.MinInt32 {
			return false
		}
	}
	for _, e := range expressions(t) {
		for _, n := range e {
			if n.Op == api.OpInt && n.Val < 0 {
				return false
			}
		}
	}
	return true
}

func latch(d api.Det) int {
	if d.Latch {
		return 1
	}
	return 0
}

// backward puts names in the place of numbers.
type backward struct {
	typed api.Typed
}

func (b backward) group(i int) string { return b.typed.Tables.Groups[i].Name }

func (b backward) stage(s api.TStage) api.Stage {
	var out api.Stage
	for i := range b.typed.Tables.Groups {
		if s.Green>>i&1 == 1 {
			out.Green = append(out.Green, b.group(i))
		}
	}
	out.Enter, out.During, out.Leave = b.block(s.Enter), b.block(s.During), b.block(s.Leave)
	for _, n := range s.Nexts {
		out.Nexts = append(out.Nexts, api.Next{To: b.typed.Stages[n.To].Name, When: b.expression(n.When)})
	}
	return out
}

func (b backward) block(list []api.Stmt) []api.Stmt {
	var out []api.Stmt
	for _, w := range list {
		kind := w.Kind
		if kind == api.StZero {
			kind = api.StReset
		}
		out = append(out, api.Stmt{Kind: kind, Name: b.named(w), Expr: b.expression(w.Expr)})
	}
	return out
}

// named is the name of what a statement is about, or "".
func (b backward) named(w api.Stmt) string {
	switch w.Kind {
	case api.StSet:
		return b.typed.Vars[w.Ix].Name
	case api.StReset, api.StRun, api.StStop:
		return b.typed.Timers[w.Ix]
	case api.StCount, api.StZero:
		return b.typed.Counters[w.Ix]
	case api.StClear:
		return b.typed.Dets[w.Ix].Name
	}
	return ""
}

func (b backward) expression(e []api.Node) []api.Node {
	var out []api.Node
	for _, n := range e {
		out = append(out, b.node(n))
	}
	return out
}

func (b backward) node(n api.Node) api.Node {
	switch n.Op {
	case api.OpGreen, api.OpRed:
		return api.Node{Op: n.Op, Name: b.group(int(n.Val))}
	case api.OpVar:
		return api.Node{Op: api.OpName, Name: b.typed.Vars[n.Val].Name}
	case api.OpTimer:
		return api.Node{Op: api.OpName, Name: b.typed.Timers[n.Val]}
	case api.OpCounter:
		return api.Node{Op: api.OpName, Name: b.typed.Counters[n.Val]}
	case api.OpDet:
		return api.Node{Op: api.OpName, Name: b.typed.Dets[n.Val].Name}
	}
	return n
}
