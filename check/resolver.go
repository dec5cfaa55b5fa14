package check

import (
	"cmp"
	"slices"

	"junction/api"
)

// resolver resolves a plan, a declaration at a time. Its scope grows as it goes on.
type resolver struct {
	stageScope
	typed   api.Typed
	started bool
}

// newResolver lets the stages be seen from the begin on.
func newResolver(name string, symbols []api.Symbol) *resolver {
	r := &resolver{typed: api.Typed{Name: name}}
	r.planScope = newPlanScope()
	for _, symbol := range symbols {
		if symbol.Kind == api.DeStage {
			r.add(symbol)
		}
	}
	return r
}

// declarations takes all of a plan's, and the symbols of those that declare one.
func (r *resolver) declarations(decls []api.Decl, symbols []api.Symbol) api.Fault {
	seen := 0
	for _, d := range decls {
		if fault := r.declaration(d); fault.Code != api.OK {
			return fault
		}
		if declares(d) {
			r.add(symbols[seen])
			seen++
		}
	}
	if !r.started {
		return api.Fault{Code: api.ErrStart}
	}
	return api.Fault{}
}

func (r *resolver) declaration(d api.Decl) api.Fault {
	switch d.Kind {
	case api.DeConst:
		r.consts = append(r.consts, d.N[0])
	case api.DeTimer:
		r.typed.Timers = append(r.typed.Timers, d.Name)
	case api.DeCounter:
		r.typed.Counters = append(r.typed.Counters, d.Name)
	case api.DeVar:
		r.typed.Vars = append(r.typed.Vars, api.Var{Name: d.Name, Init: d.N[0]})
	case api.DeGroup:
		return faultAt(r.group(d), d.At)
	case api.DeConflict:
		return faultAt(r.conflict(d), d.At)
	case api.DeDetector:
		return faultAt(r.detector(d), d.At)
	case api.DeStart:
		return faultAt(r.start(d), d.At)
	case api.DeCond:
		return r.condition(d)
	case api.DeStage:
		return r.addStage(d)
	}
	return api.Fault{}
}

func (r *resolver) group(d api.Decl) api.Errno {
	g := api.Group{Name: d.Name, Sort: d.Sort, Min: int(d.N[0]), Amber: int(d.N[1]), Lead: int(d.N[2])}
	if !soundGroup(g) {
		return api.ErrRange
	}
	r.typed.Tables.Groups = append(r.typed.Tables.Groups, g)
	return api.OK
}

func (r *resolver) conflict(d api.Decl) api.Errno {
	first, e := r.find(d.Name, api.DeGroup)
	if e != api.OK {
		return e
	}
	second, e := r.find(d.With, api.DeGroup)
	if e != api.OK {
		return e
	}
	c := api.Conflict{A: first.Ix, B: second.Ix, AB: int(d.N[0]), BA: int(d.N[1])}
	if c.A > c.B {
		c = api.Conflict{A: c.B, B: c.A, AB: c.BA, BA: c.AB}
	}
	list := r.typed.Tables.Conflicts
	at, there := slices.BinarySearchFunc(list, c, comparePairs)
	switch {
	case there || c.A == c.B:
		return api.ErrPair
	case !isTime(c.AB) || !isTime(c.BA):
		return api.ErrRange
	}
	r.typed.Tables.Conflicts = slices.Insert(list, at, c)
	return api.OK
}

// comparePairs orders conflicts by their groups.
func comparePairs(c, d api.Conflict) int {
	return cmp.Or(cmp.Compare(c.A, d.A), cmp.Compare(c.B, d.B))
}

func (r *resolver) detector(d api.Decl) api.Errno {
	det := api.Det{Name: d.Name, Latch: d.Sort == 1, Delay: int(d.N[0]), Hold: int(d.N[1])}
	if !soundDet(det) {
		return api.ErrRange
	}
	r.typed.Dets = append(r.typed.Dets, det)
	return api.OK
}

func (r *resolver) start(d api.Decl) api.Errno {
	if r.started {
		return api.ErrStart
	}
	stage, e := r.find(d.Name, api.DeStage)
	if e != api.OK {
		return e
	}
	r.started, r.typed.Start = true, stage.Ix
	return api.OK
}

func (r *resolver) condition(d api.Decl) api.Fault {
	e, fault := r.resolved(d.Expr, api.TyBool)
	if fault.Code != api.OK {
		return fault
	}
	r.conds = append(r.conds, e)
	return api.Fault{}
}

func (r *resolver) addStage(d api.Decl) api.Fault {
	stage, fault := r.stage(d, len(r.typed.Stages))
	if fault.Code != api.OK {
		return fault
	}
	r.typed.Stages = append(r.typed.Stages, stage)
	return api.Fault{}
}
