package opt

import (
	"strconv"

	"junction/api"
	"junction/check"
)

// fits tells whether an expression is one of some plan, whatever that plan has.
func fits(e []api.Node) bool {
	// Of the plan just the lengths of its lists are looked at: it needs no names.
	roomy := api.Typed{
		Tables:   api.Tables{Groups: make([]api.Group, api.MaxGroups)},
		Dets:     make([]api.Det, api.MaxDets),
		Timers:   make([]string, api.MaxTimers),
		Counters: make([]string, api.MaxCounters),
		Vars:     make([]api.Var, api.MaxVars),
	}
	return check.SoundExpr(roomy, e, api.TyInt) || check.SoundExpr(roomy, e, api.TyBool)
}

// fitsAsBody tells the same of a list of statements: it is sound just if a plan with all that there may be is sound that has this list and no other one.
func fitsAsBody(l []api.Stmt) bool {
	roomy := api.Typed{Name: "p", Stages: []api.TStage{{Name: "s", Enter: l}}}
	for i := range api.MaxGroups {
		roomy.Tables.Groups = append(roomy.Tables.Groups, api.Group{Name: named("g", i), Sort: api.Vehicle, Min: 1})
	}
	for i := range api.MaxDets {
		roomy.Dets = append(roomy.Dets, api.Det{Name: named("d", i)})
	}
	for i := range api.MaxTimers {
		roomy.Timers = append(roomy.Timers, named("t", i))
	}
	for i := range api.MaxCounters {
		roomy.Counters = append(roomy.Counters, named("c", i))
	}
	for i := range api.MaxVars {
		roomy.Vars = append(roomy.Vars, api.Var{Name: named("v", i)})
	}
	return check.Sound(roomy)
}

func named(kind string, i int) string { return kind + strconv.Itoa(i) }
