package check_test

// A second way from a plan to its typed plan, by the chapter's words: a name is looked for among the declarations themselves, an expression is taken apart from its root, and what is put in is made anew each time.

import (
	"slices"

	"junction/api"
	"junction/tree"
)

type model struct {
	p                   api.Plan
	stmts, nexts, nodes int
}

func modelResolve(p api.Plan) (x api.Typed, f api.Fault) {
	defer func() {
		if given := recover(); given != nil {
			x, f = api.Typed{}, given.(api.Fault)
		}
	}()
	m := &model{p: p}
	refuse(!tree.Formed(p), api.ErrTree, api.Pos{})
	for k := range p.Decls {
		m.second(k)
	}
	for k := range p.Decls {
		m.third(k)
	}
	refuse(len(m.places(api.DeStart)) == 0, api.ErrStart, api.Pos{})
	return m.typed(), api.Fault{}
}

func refuse(wrong bool, e api.Errno, where api.Pos) {
	if wrong {
		panic(api.Fault{Code: e, At: where})
	}
}

// places are where the declarations of a kind stand.
func (m *model) places(kind int) []int {
	var list []int
	for k, d := range m.p.Decls {
		if d.Kind == kind {
			list = append(list, k)
		}
	}
	return list
}

func (m *model) ix(k int) int { return slices.Index(m.places(m.p.Decls[k].Kind), k) }

func named(d api.Decl) bool { return d.Kind != api.DeConflict && d.Kind != api.DeStart }

func (m *model) second(k int) {
	d := m.p.Decls[k]
	if !named(d) {
		return
	}
	for _, above := range m.p.Decls[:k] {
		refuse(named(above) && above.Name == d.Name, api.ErrTwice, d.At)
	}
	limits := map[int]int{api.DeGroup: 64, api.DeDetector: 64, api.DeTimer: 64, api.DeCounter: 64, api.DeVar: 64, api.DeStage: 256}
	if most, limited := limits[d.Kind]; limited {
		refuse(m.ix(k) >= most, api.ErrMany, d.At)
	}
}

// seen is the declaration that a name in the k-th one means; -1, if it means none.
func (m *model) seen(k int, name string) int {
	for i, d := range m.p.Decls {
		if named(d) && d.Name == name && (i < k || d.Kind == api.DeStage) {
			return i
		}
	}
	return -1
}

// wanted is the declaration of a name, of one of the kinds.
func (m *model) wanted(k int, name string, where api.Pos, kinds ...int) int {
	i := m.seen(k, name)
	refuse(i < 0, api.ErrUnknown, where)
	refuse(!slices.Contains(kinds, m.p.Decls[i].Kind), api.ErrKind, where)
	return i
}

func out(n int32, least, most int32) bool { return n < least || n > most }

func (m *model) third(k int) {
	d := m.p.Decls[k]
	switch d.Kind {
	case api.DeGroup:
		refuse(out(d.N[0], 1, 3600) || out(d.N[1], 0, 60) || out(d.N[2], 0, 60), api.ErrRange, d.At)
	case api.DeConflict:
		a := m.wanted(k, d.Name, d.At, api.DeGroup)
		b := m.wanted(k, d.With, d.At, api.DeGroup)
		refuse(a == b, api.ErrPair, d.At)
		for _, above := range m.p.Decls[:k] {
			refuse(above.Kind == api.DeConflict && (above.Name == d.Name && above.With == d.With || above.Name == d.With && above.With == d.Name), api.ErrPair, d.At)
		}
		refuse(out(d.N[0], 0, 3600) || out(d.N[1], 0, 3600), api.ErrRange, d.At)
	case api.DeDetector:
		refuse(out(d.N[0], 0, 3600) || out(d.N[1], 0, 3600), api.ErrRange, d.At)
	case api.DeCond:
		m.look(k, d.Expr, api.TyBool)
	case api.DeStart:
		refuse(m.places(api.DeStart)[0] < k, api.ErrStart, d.At)
		m.wanted(k, d.Name, d.At, api.DeStage)
	case api.DeStage:
		for i, name := range d.Stage.Green {
			m.wanted(k, name, d.At, api.DeGroup)
			refuse(slices.Contains(d.Stage.Green[:i], name), api.ErrPair, d.At)
		}
		for _, s := range slices.Concat(d.Stage.Enter, d.Stage.During, d.Stage.Leave) {
			m.statement(k, s)
		}
		for _, n := range d.Stage.Nexts {
			m.nexts++
			refuse(m.nexts > 4096, api.ErrMany, n.At)
			refuse(m.wanted(k, n.To, n.At, api.DeStage) == k, api.ErrSelf, n.At)
			m.lookInStage(k, n.When, api.TyBool)
		}
	}
}

func (m *model) statement(k int, s api.Stmt) {
	m.stmts++
	refuse(m.stmts > 4096, api.ErrMany, s.At)
	switch s.Kind {
	case api.StSet:
		m.wanted(k, s.Name, s.At, api.DeVar)
		m.lookInStage(k, s.Expr, api.TyInt)
	case api.StReset:
		m.wanted(k, s.Name, s.At, api.DeTimer, api.DeCounter)
	case api.StRun, api.StStop:
		m.wanted(k, s.Name, s.At, api.DeTimer)
	case api.StCount:
		m.wanted(k, s.Name, s.At, api.DeCounter)
	case api.StClear:
		m.wanted(k, s.Name, s.At, api.DeDetector)
	case api.StIf:
		m.lookInStage(k, s.Expr, api.TyBool)
	}
}

func (m *model) look(k int, e []api.Node, typ int) int {
	root := e[len(e)-1].At
	refuse(m.typeOf(k, e) != typ, api.ErrType, root)
	put := m.put(k, e)
	refuse(len(put) > 256 || tree.Nest(put) > 64, api.ErrSize, root)
	return len(put)
}

func (m *model) lookInStage(k int, e []api.Node, typ int) {
	m.nodes += m.look(k, e, typ)
	refuse(m.nodes > 16384, api.ErrSize, e[len(e)-1].At)
}

// parts are the operands of a tree's root.
func parts(e []api.Node) [][]api.Node {
	var list [][]api.Node
	for end := len(e) - 1; end > 0; {
		from := tree.Span(e, end-1)
		list = append([][]api.Node{e[from:end]}, list...)
		end = from
	}
	return list
}

func (m *model) typeOf(k int, e []api.Node) int {
	var types []int
	for _, part := range parts(e) {
		types = append(types, m.typeOf(k, part))
	}
	root := e[len(e)-1]
	switch root.Op {
	case api.OpInt, api.OpElapsed:
		return api.TyInt
	case api.OpBool:
		return api.TyBool
	case api.OpGreen, api.OpRed:
		m.wanted(k, root.Name, root.At, api.DeGroup)
		return api.TyBool
	case api.OpName:
		i := m.wanted(k, root.Name, root.At, api.DeConst, api.DeVar, api.DeTimer, api.DeCounter, api.DeDetector, api.DeCond)
		if kind := m.p.Decls[i].Kind; kind == api.DeDetector || kind == api.DeCond {
			return api.TyBool
		}
		return api.TyInt
	}
	o := operators()[root.Op]
	refuse(!slices.ContainsFunc(o.takes, func(takes []int) bool { return slices.Equal(takes, types) }), api.ErrType, root.At)
	return o.is
}

// put is an expression of the k-th declaration with all put in.
func (m *model) put(k int, e []api.Node) []api.Node {
	var list []api.Node
	for _, n := range e {
		i := m.seen(k, n.Name)
		switch {
		case i < 0:
			list = append(list, node(n.Op, n.Val))
		case n.Op != api.OpName:
			list = append(list, node(n.Op, int32(m.ix(i))))
		case m.p.Decls[i].Kind == api.DeConst:
			v := m.p.Decls[i].N[0]
			if v < 0 {
				list = append(list, node(api.OpInt, -v), node(api.OpNeg))
			} else {
				list = append(list, node(api.OpInt, v))
			}
		case m.p.Decls[i].Kind == api.DeCond:
			list = append(list, m.put(i, m.p.Decls[i].Expr)...)
		default:
			op := map[int]int{api.DeVar: api.OpVar, api.DeTimer: api.OpTimer, api.DeCounter: api.OpCounter, api.DeDetector: api.OpDet}[m.p.Decls[i].Kind]
			list = append(list, node(op, int32(m.ix(i))))
		}
	}
	return list
}

// typed is the typed plan of a plan without a fault.
func (m *model) typed() api.Typed {
	x := api.Typed{Name: m.p.Name}
	for k, d := range m.p.Decls {
		switch d.Kind {
		case api.DeGroup:
			x.Tables.Groups = append(x.Tables.Groups, api.Group{Name: d.Name, Sort: d.Sort, Min: int(d.N[0]), Amber: int(d.N[1]), Lead: int(d.N[2])})
		case api.DeDetector:
			x.Dets = append(x.Dets, api.Det{Name: d.Name, Latch: d.Sort == 1, Delay: int(d.N[0]), Hold: int(d.N[1])})
		case api.DeTimer:
			x.Timers = append(x.Timers, d.Name)
		case api.DeCounter:
			x.Counters = append(x.Counters, d.Name)
		case api.DeVar:
			x.Vars = append(x.Vars, api.Var{Name: d.Name, Init: d.N[0]})
		case api.DeStart:
			x.Start = m.ix(m.seen(k, d.Name))
		case api.DeStage:
			x.Stages = append(x.Stages, m.stage(k, d))
		}
	}
	for a := range x.Tables.Groups {
		for b := a + 1; b < len(x.Tables.Groups); b++ {
			x.Tables.Conflicts = append(x.Tables.Conflicts, m.between(x, a, b)...)
		}
	}
	return x
}

// between is the conflict of two groups, if there is one.
func (m *model) between(x api.Typed, a, b int) []api.Conflict {
	for _, d := range m.p.Decls {
		switch {
		case d.Kind != api.DeConflict:
		case d.Name == x.Tables.Groups[a].Name && d.With == x.Tables.Groups[b].Name:
			return []api.Conflict{{A: a, B: b, AB: int(d.N[0]), BA: int(d.N[1])}}
		case d.With == x.Tables.Groups[a].Name && d.Name == x.Tables.Groups[b].Name:
			return []api.Conflict{{A: a, B: b, AB: int(d.N[1]), BA: int(d.N[0])}}
		}
	}
	return nil
}

func (m *model) stage(k int, d api.Decl) api.TStage {
	s := api.TStage{Name: d.Name, Id: m.ix(k)}
	for _, name := range d.Stage.Green {
		s.Green += 1 << m.ix(m.seen(k, name))
	}
	s.Enter, s.During, s.Leave = m.block(k, d.Stage.Enter), m.block(k, d.Stage.During), m.block(k, d.Stage.Leave)
	for _, n := range d.Stage.Nexts {
		s.Nexts = append(s.Nexts, api.TNext{To: m.ix(m.seen(k, n.To)), When: m.put(k, n.When)})
	}
	return s
}

func (m *model) block(k int, list []api.Stmt) []api.Stmt {
	var out []api.Stmt
	for _, s := range list {
		w := api.Stmt{Kind: s.Kind, Expr: m.put(k, s.Expr)}
		if i := m.seen(k, s.Name); i >= 0 {
			w.Ix = m.ix(i)
			if s.Kind == api.StReset && m.p.Decls[i].Kind == api.DeCounter {
				w.Kind = api.StZero
			}
		}
		out = append(out, w)
	}
	return out
}
