package check_test

// A second way to tell what is sound, by the chapter's words: expressions are taken apart from their roots, blocks from their first statement on.

import (
	"slices"

	"junction/api"
	"junction/lex"
	"junction/tree"
)

func within(n, least, most int) bool { return n >= least && n <= most }

func all[T any](list []T, good func(T) bool) bool {
	return !slices.ContainsFunc(list, func(x T) bool { return !good(x) })
}

func modelGrid(t api.Tables) bool {
	if len(t.Groups) > 64 {
		return false
	}
	for i, c := range t.Conflicts {
		if c.A < 0 || c.A >= c.B || c.B >= len(t.Groups) || !within(c.AB, 0, 3600) || !within(c.BA, 0, 3600) {
			return false
		}
		if i > 0 {
			if last := t.Conflicts[i-1]; c.A < last.A || c.A == last.A && c.B <= last.B {
				return false
			}
		}
	}
	return all(t.Groups, func(g api.Group) bool {
		return within(g.Sort, 1, 2) && within(g.Min, 1, 3600) && within(g.Amber, 0, 60) && within(g.Lead, 0, 60)
	})
}

func modelSoundExpr(t api.Typed, e []api.Node, typ int) bool {
	if len(e) < 1 || len(e) > 256 || tree.Span(e, len(e)-1) != 0 || tree.Nest(e) > 64 || !within(typ, 1, 2) {
		return false
	}
	return soundType(t, e) == typ
}

// soundType is the type of a tree, or 0 if it is not sound.
func soundType(t api.Typed, e []api.Node) int {
	root := e[len(e)-1]
	if root.Name != "" || root.At != at(0, 0) {
		return 0
	}
	places := map[int]int{api.OpGreen: len(t.Tables.Groups), api.OpRed: len(t.Tables.Groups), api.OpVar: len(t.Vars), api.OpTimer: len(t.Timers), api.OpCounter: len(t.Counters), api.OpDet: len(t.Dets), api.OpBool: 2, api.OpInt: 1 << 32}
	most, has := places[root.Op]
	switch {
	case root.Op == api.OpInt:
		return api.TyInt
	case !has && root.Val != 0, has && !within(int(root.Val), 0, most-1), root.Op == api.OpName:
		return 0
	case slices.Contains([]int{api.OpGreen, api.OpRed, api.OpDet, api.OpBool}, root.Op):
		return api.TyBool
	case root.Op <= api.OpDet:
		return api.TyInt
	}
	var types []int
	for _, part := range parts(e) {
		types = append(types, soundType(t, part))
	}
	o := operators()[root.Op]
	for _, takes := range o.takes {
		if slices.Equal(takes, types) {
			return o.is
		}
	}
	return 0
}

func modelSoundStmt(t api.Typed, s api.Stmt) bool {
	if s.Name != "" || s.At != at(0, 0) || !within(s.Kind, 1, 10) {
		return false
	}
	lengths := map[int]int{api.StSet: len(t.Vars), api.StReset: len(t.Timers), api.StRun: len(t.Timers), api.StStop: len(t.Timers), api.StCount: len(t.Counters), api.StZero: len(t.Counters), api.StClear: len(t.Dets), api.StIf: 1, api.StElse: 1, api.StEnd: 1}
	if !within(s.Ix, 0, lengths[s.Kind]-1) {
		return false
	}
	switch s.Kind {
	case api.StSet:
		return modelSoundExpr(t, s.Expr, api.TyInt)
	case api.StIf:
		return modelSoundExpr(t, s.Expr, api.TyBool)
	}
	return len(s.Expr) == 0
}

// blockEnd is where a block ends that begins at i, with so many ifs open: at the list's end, or at an else or an end that is not of an if in it; -1, if an if in it is wrong.
func blockEnd(list []api.Stmt, i, open int) int {
	for i < len(list) && list[i].Kind != api.StElse && list[i].Kind != api.StEnd {
		if list[i].Kind == api.StIf {
			if open == 16 {
				return -1
			}
			i = blockEnd(list, i+1, open+1)
			if i >= 0 && i < len(list) && list[i].Kind == api.StElse {
				i = blockEnd(list, i+1, open+1)
			}
			if i < 0 || i == len(list) || list[i].Kind != api.StEnd {
				return -1
			}
		}
		i++
	}
	return i
}

func modelSound(t api.Typed) bool {
	var names []string
	for _, g := range t.Tables.Groups {
		names = append(names, g.Name)
	}
	for _, d := range t.Dets {
		names = append(names, d.Name)
	}
	for _, v := range t.Vars {
		names = append(names, v.Name)
	}
	var ids []int
	var stmts []api.Stmt
	nexts, nodes, good := 0, 0, true
	for i, s := range t.Stages {
		names = append(names, s.Name)
		ids = append(ids, s.Id)
		for bit := range 64 {
			good = good && (s.Green>>bit&1 == 0 || bit < len(t.Tables.Groups))
		}
		for _, list := range [][]api.Stmt{s.Enter, s.During, s.Leave} {
			good = good && blockEnd(list, 0, 0) == len(list)
			stmts = append(stmts, list...)
		}
		for _, n := range s.Nexts {
			good = good && within(n.To, 0, len(t.Stages)-1) && n.To != i && modelSoundExpr(t, n.When, api.TyBool)
			nodes += len(n.When)
			nexts++
		}
	}
	for _, s := range stmts {
		good = good && modelSoundStmt(t, s)
		nodes += len(s.Expr)
	}
	names = append(append(names, t.Timers...), t.Counters...)
	isName := func(s string) bool { return lex.KindOf(s) == api.TkName }
	good = good && isName(t.Name) && all(names, isName)
	slices.Sort(names)
	good = good && len(slices.Compact(names)) == len(t.Tables.Groups)+len(t.Dets)+len(t.Timers)+len(t.Counters)+len(t.Vars)+len(t.Stages)
	good = good && slices.IsSorted(ids) && len(slices.Compact(slices.Clone(ids))) == len(ids) && all(ids, func(id int) bool { return within(id, 0, 255) })
	good = good && modelGrid(t.Tables) && all(t.Dets, func(d api.Det) bool { return within(d.Delay, 0, 3600) && within(d.Hold, 0, 3600) })
	good = good && len(t.Dets) <= 64 && len(t.Timers) <= 64 && len(t.Counters) <= 64 && len(t.Vars) <= 64 && within(len(t.Stages), 1, 256)
	return good && within(t.Start, 0, len(t.Stages)-1) && len(stmts) <= 4096 && nexts <= 4096 && nodes <= 16384
}

// exprsOf are all expressions of a typed plan's stages.
func exprsOf(t api.Typed) [][]api.Node {
	var list [][]api.Node
	for _, s := range t.Stages {
		for _, w := range slices.Concat(s.Enter, s.During, s.Leave) {
			list = append(list, w.Expr)
		}
		for _, n := range s.Nexts {
			list = append(list, n.When)
		}
	}
	return list
}

// negative tells whether an expression has an OpInt below 0.
func negative(t api.Typed) bool {
	return slices.ContainsFunc(slices.Concat(exprsOf(t)...), func(n api.Node) bool { return n.Op == api.OpInt && n.Val < 0 })
}
