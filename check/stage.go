package check

import "junction/api"

// stageScope resolves stages. It counts over all of them.
type stageScope struct {
	exprScope
	here  int // the number of the stage that is being resolved
	stmts int
	nexts int
	nodes int
}

func (s *stageScope) stage(d api.Decl, number int) (api.TStage, api.Fault) {
	s.here = number
	green, e := s.green(d.Stage.Green)
	if e != api.OK {
		return api.TStage{}, api.Fault{Code: e, At: d.At}
	}
	out := api.TStage{Name: d.Name, Id: number, Green: green}
	var fault api.Fault
	if out.Enter, fault = each(d.Stage.Enter, s.statement); fault.Code != api.OK {
		return api.TStage{}, fault
	}
	if out.During, fault = each(d.Stage.During, s.statement); fault.Code != api.OK {
		return api.TStage{}, fault
	}
	if out.Leave, fault = each(d.Stage.Leave, s.statement); fault.Code != api.OK {
		return api.TStage{}, fault
	}
	if out.Nexts, fault = each(d.Stage.Nexts, s.next); fault.Code != api.OK {
		return api.TStage{}, fault
	}
	return out, api.Fault{}
}

// each is what becomes of the elements of a list, or the fault of the first that has one.
func each[From, To any](list []From, become func(From) (To, api.Fault)) ([]To, api.Fault) {
	var out []To
	for _, x := range list {
		y, fault := become(x)
		if fault.Code != api.OK {
			return nil, fault
		}
		out = append(out, y)
	}
	return out, api.Fault{}
}

// green is the mask of the groups of those names.
func (s *stageScope) green(names []string) (uint64, api.Errno) {
	var mask uint64
	for _, name := range names {
		group, e := s.find(name, api.DeGroup)
		if e != api.OK {
			return 0, e
		}
		bit := uint64(1) << group.Ix
		if mask&bit != 0 {
			return 0, api.ErrPair
		}
		mask |= bit
	}
	return mask, api.OK
}

func (s *stageScope) statement(w api.Stmt) (api.Stmt, api.Fault) {
	if s.stmts == api.MaxStmts {
		return api.Stmt{}, api.Fault{Code: api.ErrMany, At: w.At}
	}
	s.stmts++
	out := api.Stmt{Kind: w.Kind}
	if kinds := namedBy(w.Kind); len(kinds) > 0 {
		symbol, e := s.find(w.Name, kinds...)
		if e != api.OK {
			return api.Stmt{}, api.Fault{Code: e, At: w.At}
		}
		out.Ix = symbol.Ix
		if w.Kind == api.StReset && symbol.Kind == api.DeCounter {
			out.Kind = api.StZero
		}
	}
	typ := typeIn(w.Kind)
	if typ == 0 {
		return out, api.Fault{}
	}
	var fault api.Fault
	out.Expr, fault = s.counted(w.Expr, typ)
	return out, fault
}

// namedBy are the kinds of declarations whose names a kind of statements may have; none, if it has no name.
func namedBy(kind int) []int {
	switch kind {
	case api.StSet:
		return []int{api.DeVar}
	case api.StReset:
		return []int{api.DeTimer, api.DeCounter}
	case api.StRun, api.StStop:
		return []int{api.DeTimer}
	case api.StCount:
		return []int{api.DeCounter}
	case api.StClear:
		return []int{api.DeDetector}
	}
	return nil
}

// typeIn is the type of the expression in a kind of statements; 0, if it has none.
func typeIn(kind int) int {
	switch kind {
	case api.StSet:
		return api.TyInt
	case api.StIf:
		return api.TyBool
	}
	return 0
}

func (s *stageScope) next(w api.Next) (api.TNext, api.Fault) {
	if s.nexts == api.MaxNexts {
		return api.TNext{}, api.Fault{Code: api.ErrMany, At: w.At}
	}
	s.nexts++
	to, e := s.find(w.To, api.DeStage)
	if e == api.OK && to.Ix == s.here {
		e = api.ErrSelf
	}
	if e != api.OK {
		return api.TNext{}, api.Fault{Code: e, At: w.At}
	}
	when, fault := s.counted(w.When, api.TyBool)
	return api.TNext{To: to.Ix, When: when}, fault
}

// counted is an expression, resolved, with which all stages so far may not have too many nodes.
func (s *stageScope) counted(e []api.Node, typ int) ([]api.Node, api.Fault) {
	out, fault := s.resolved(e, typ)
	if fault.Code != api.OK {
		return nil, fault
	}
	s.nodes += len(out)
	if s.nodes > api.MaxTotal {
		return nil, api.Fault{Code: api.ErrSize, At: e[len(e)-1].At}
	}
	return out, api.Fault{}
}
