package code

import (
	"strconv"

	"junction/api"
	"junction/check"
)

// fits tells whether an expression is one of some plan, whatever that plan has.
func fits(e []api.Node) bool {
	t := anyPlan()
	return check.SoundExpr(t, e, api.TyInt) || check.SoundExpr(t, e, api.TyBool)
}

// fitsAsBody tells the same of a list of statements. How many nodes a plan has in all does not count here: so each expression is looked at by itself, and the list with a short one in its place.
func fitsAsBody(l []api.Stmt) bool {
	if len(l) > api.MaxStmts {
		return false
	}
	t := anyPlan()
	short := make([]api.Stmt, len(l))
	for i, s := range l {
		switch s.Kind {
		case api.StSet:
			if !check.SoundExpr(t, s.Expr, api.TyInt) {
				return false
			}
			s.Expr = []api.Node{{Op: api.OpInt}}
		case api.StIf:
			if !check.SoundExpr(t, s.Expr, api.TyBool) {
				return false
			}
			s.Expr = []api.Node{{Op: api.OpBool}}
		}
		short[i] = s
	}
	t.Stages = []api.TStage{{Name: "s", Enter: short}}
	return check.Sound(t)
}

// anyPlan has as many of all things as there may be. It is sound, but for its lack of stages.
func anyPlan() api.Typed {
	t := api.Typed{Name: "p"}
	for i := range api.MaxGroups {
		t.Tables.Groups = append(t.Tables.Groups, api.Group{Name: named("g", i), Sort: api.Vehicle, Min: 1})
	}
	for i := range api.MaxDets {
		t.Dets = append(t.Dets, api.Det{Name: named("d", i)})
	}
	for i := range api.MaxTimers {
		t.Timers = append(t.Timers, named("t", i))
	}
	for i := range api.MaxCounters {
		t.Counters = append(t.Counters, named("c", i))
	}
	for i := range api.MaxVars {
		t.Vars = append(t.Vars, api.Var{Name: named("v", i)})
	}
	return t
}

func named(kind string, i int) string { return kind + strconv.Itoa(i) }
