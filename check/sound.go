package check

import (
	"junction/api"
	"junction/lex"
	"junction/tree"
)

// Grid tells whether tables are sound.
func Grid(t api.Tables) bool {
	if len(t.Groups) > api.MaxGroups {
		return false
	}
	for _, g := range t.Groups {
		if !soundGroup(g) {
			return false
		}
	}
	for i, c := range t.Conflicts {
		if !soundConflict(c, len(t.Groups)) || i > 0 && comparePairs(t.Conflicts[i-1], c) >= 0 {
			return false
		}
	}
	return true
}

func soundGroup(g api.Group) bool {
	return (g.Sort == api.Vehicle || g.Sort == api.Pedestrian) && g.Min >= 1 && isTime(g.Min) && isAmber(g.Amber) && isAmber(g.Lead)
}

func soundConflict(c api.Conflict, groups int) bool {
	return 0 <= c.A && c.A < c.B && c.B < groups && isTime(c.AB) && isTime(c.BA)
}

func soundDet(d api.Det) bool { return isTime(d.Delay) && isTime(d.Hold) }

func isTime(ticks int) bool { return 0 <= ticks && ticks <= api.MaxTime }

func isAmber(ticks int) bool { return 0 <= ticks && ticks <= api.MaxAmber }

// SoundExpr tells whether an expression is one of that type over a typed plan's tables.
func SoundExpr(t api.Typed, e []api.Node, typ int) bool { return sizesOf(t).soundExpr(e, typ) }

// Sound tells whether a typed plan is sound.
func Sound(t api.Typed) bool {
	if !Grid(t.Tables) || !soundCounts(t) || !soundNames(t) {
		return false
	}
	for _, d := range t.Dets {
		if !soundDet(d) {
			return false
		}
	}
	// A start that is a place tells that there is a stage at all.
	return isPlace(t.Start, len(t.Stages)) && soundStages(t)
}

// soundCounts asks whether there are not too many of anything beside the tables.
func soundCounts(t api.Typed) bool {
	if len(t.Dets) > api.MaxDets || len(t.Timers) > api.MaxTimers || len(t.Counters) > api.MaxCounters ||
		len(t.Vars) > api.MaxVars || len(t.Stages) > api.MaxStages {
		return false
	}
	stmts, nexts, nodes := 0, 0, 0
	for _, s := range t.Stages {
		stmts += len(s.Enter) + len(s.During) + len(s.Leave)
		nexts += len(s.Nexts)
	}
	if stmts > api.MaxStmts || nexts > api.MaxNexts {
		return false
	}
	for _, e := range expressions(t) {
		nodes += len(e)
	}
	return nodes <= api.MaxTotal
}

// expressions are those of all stages.
func expressions(t api.Typed) [][]api.Node {
	var out [][]api.Node
	for _, s := range t.Stages {
		for _, block := range blocks(s) {
			for _, w := range block {
				out = append(out, w.Expr)
			}
		}
		for _, n := range s.Nexts {
			out = append(out, n.When)
		}
	}
	return out
}

func blocks(s api.TStage) [3][]api.Stmt { return [...][]api.Stmt{s.Enter, s.During, s.Leave} }

func soundNames(t api.Typed) bool {
	s := newPlanScope()
	for _, name := range names(t) {
		if !isName(name) || !s.add(api.Symbol{Name: name}) {
			return false
		}
	}
	return isName(t.Name)
}

func isName(word string) bool { return lex.KindOf(word) == api.TkName }

// names are those of all things of a typed plan.
func names(t api.Typed) []string {
	var out []string
	for _, g := range t.Tables.Groups {
		out = append(out, g.Name)
	}
	for _, d := range t.Dets {
		out = append(out, d.Name)
	}
	out = append(out, t.Timers...)
	out = append(out, t.Counters...)
	for _, v := range t.Vars {
		out = append(out, v.Name)
	}
	for _, s := range t.Stages {
		out = append(out, s.Name)
	}
	return out
}

func isPlace(i, length int) bool { return 0 <= i && i < length }

func soundStages(t api.Typed) bool {
	has := sizesOf(t)
	last := -1
	for i, s := range t.Stages {
		if s.Id <= last || s.Id >= api.MaxStages || s.Green>>len(t.Tables.Groups) != 0 {
			return false
		}
		last = s.Id
		for _, block := range blocks(s) {
			if !has.soundBlock(block) {
				return false
			}
		}
		for _, n := range s.Nexts {
			if !isPlace(n.To, len(t.Stages)) || n.To == i || !has.soundExpr(n.When, api.TyBool) {
				return false
			}
		}
	}
	return true
}

// sizes is how many things a typed plan has of which an expression or a statement tells the number.
type sizes struct {
	groups, dets, timers, counters, vars int
}

func sizesOf(t api.Typed) sizes {
	return sizes{groups: len(t.Tables.Groups), dets: len(t.Dets), timers: len(t.Timers), counters: len(t.Counters), vars: len(t.Vars)}
}

func (s sizes) soundExpr(e []api.Node, typ int) bool {
	if len(e) > api.MaxNodes {
		return false
	}
	if nest := tree.Nest(e); nest < 0 || nest > api.MaxDepth {
		return false
	}
	for _, n := range e {
		if !s.soundNode(n) {
			return false
		}
	}
	is, fault := typeOver(e, plainType)
	return fault.Code == api.OK && is == typ
}

// plainType is the type of a leaf without a name.
func plainType(n api.Node) (int, api.Errno) { return ruleOf(n.Op).is, api.OK }

// soundNode looks at a node by itself, whose Op is known to be one.
func (s sizes) soundNode(n api.Node) bool {
	if n.Name != "" || n.At != (api.Pos{}) {
		return false
	}
	place := int(n.Val)
	switch n.Op {
	case api.OpName:
		return false
	case api.OpInt:
		return true
	case api.OpBool:
		return n.Val == 0 || n.Val == 1
	case api.OpGreen, api.OpRed:
		return isPlace(place, s.groups)
	case api.OpVar:
		return isPlace(place, s.vars)
	case api.OpTimer:
		return isPlace(place, s.timers)
	case api.OpCounter:
		return isPlace(place, s.counters)
	case api.OpDet:
		return isPlace(place, s.dets)
	}
	return n.Val == 0
}

// soundBlock looks at each statement, and at the ifs as at brackets.
func (s sizes) soundBlock(block []api.Stmt) bool {
	var hasElse [api.MaxBlocks]bool // of each if that is open
	open := 0
	for _, w := range block {
		if !s.soundStmt(w) {
			return false
		}
		switch w.Kind {
		case api.StIf:
			if open == api.MaxBlocks {
				return false
			}
			hasElse[open] = false
			open++
		case api.StElse:
			if open == 0 || hasElse[open-1] {
				return false
			}
			hasElse[open-1] = true
		case api.StEnd:
			if open == 0 {
				return false
			}
			open--
		}
	}
	return open == 0
}

// soundStmt looks at a statement by itself.
func (s sizes) soundStmt(w api.Stmt) bool {
	if w.Name != "" || w.At != (api.Pos{}) || !s.soundIx(w) {
		return false
	}
	if typ := typeIn(w.Kind); typ != 0 {
		return s.soundExpr(w.Expr, typ)
	}
	return len(w.Expr) == 0
}

func (s sizes) soundIx(w api.Stmt) bool {
	switch w.Kind {
	case api.StSet:
		return isPlace(w.Ix, s.vars)
	case api.StReset, api.StRun, api.StStop:
		return isPlace(w.Ix, s.timers)
	case api.StCount, api.StZero:
		return isPlace(w.Ix, s.counters)
	case api.StClear:
		return isPlace(w.Ix, s.dets)
	case api.StIf, api.StElse, api.StEnd:
		return w.Ix == 0
	}
	return false
}
