package opt_test

import (
	"fmt"
	"math/rand"
	"slices"
	"strings"
	"testing"

	"junction/api"
	"junction/check"
	"junction/opt"
	"junction/sim"
)

// street is two groups, and what the plans of these tests may name.
const street = `plan p {
	group a vehicle min 5 amber 3; group b vehicle min 5 amber 3; conflict a b 4 4;
	detector d; detector e latch; timer t; counter c; var x = 7; var y = 0; var z = -1; `

// checkPlan asks whether the plan of one text becomes that of another, whose stages have those Ids.
func checkPlan(t *testing.T, in, out string, ids ...int) {
	t.Helper()
	given, want := resolved(t, street+in+" }"), resolved(t, street+out+" }")
	for i, id := range ids {
		want.Stages[i].Id = id
	}
	for i := range want.Stages {
		s := &want.Stages[i]
		for _, list := range [][]api.Stmt{s.Enter, s.During, s.Leave} {
			for n := range list {
				list[n].Expr = negatives(list[n].Expr)
			}
		}
		for n := range s.Nexts {
			s.Nexts[n].When = negatives(s.Nexts[n].When)
		}
	}
	if got, e := opt.Plan(given); e != api.OK || !same(got, want) {
		t.Errorf("Plan(%s): %s, %d, want %s", in, toldPlan(got), e, toldPlan(want))
	}
}

// toldPlan is a plan's stages for a failure's text.
func toldPlan(x api.Typed) string {
	text := fmt.Sprintf("start %d", x.Start)
	for _, s := range x.Stages {
		text += fmt.Sprintf("\n%s %d %x enter {%s} during {%s} leave {%s}", s.Name, s.Id, s.Green, toldBody(s.Enter), toldBody(s.During), toldBody(s.Leave))
		for _, n := range s.Nexts {
			text += fmt.Sprintf(" next %d when %s;", n.To, told(n.When))
		}
	}
	return text
}

// P9.4: nothing to do; all else stays as it is.
func TestPlanStays(t *testing.T) {
	whole := "start s; stage s { green a; enter { x = t; } during { y = x + 1; } leave { count c; } next u when d and x < 3; next u when e; } stage u { green b; next s when elapsed >= 5; }"
	checkPlan(t, whole, whole)
	given := resolved(t, street+whole+" }")
	given.Name, given.Stages[1].Id = "other", 255
	given.Dets[1] = api.Det{Name: "e", Latch: true, Delay: 3600, Hold: 2}
	given.Tables.Groups[1] = api.Group{Name: "b", Sort: api.Pedestrian, Min: 3600, Amber: 60, Lead: 60}
	if got, e := opt.Plan(given); e != api.OK || !same(got, given) {
		t.Errorf("%+v, %d", got, e)
	}
	least := api.Typed{Name: "p", Stages: []api.TStage{{Name: "s", Id: 9}}}
	if got, e := opt.Plan(least); e != api.OK || !same(got, least) {
		t.Errorf("a stage alone: %+v, %d", got, e)
	}
}

// P9.4, step 1: the variables that nothing sets.
func TestPlanUnset(t *testing.T) {
	checkPlan(t, "start s; stage s { green a; enter { y = x + z; } next u when x > y; next u when x > z; } stage u { green b; next s when d; }",
		"start s; stage s { green a; enter { y = 6; } next u when y < 7; next u when true; } stage u { green b; next s when d; }")
	// One that is set in some stage, to its first word at that, is not known elsewhere.
	checkPlan(t, "start s; stage s { green a; next u when x > 3; } stage u { green b; leave { x = 7; } next s when d; }",
		"start s; stage s { green a; next u when x > 3; } stage u { green b; leave { x = 7; } next s when d; }")
	// Statements that go let a variable be known in the next round, and again in the one behind that.
	checkPlan(t, "start s; stage s { green a; enter { if z > 0 { y = 1; } if y > 0 { x = 1; } } next u when x == 7; next u when d; } stage u { green b; next s when d; }",
		"start s; stage s { green a; next u when true; } stage u { green b; next s when d; }")
	// So does a stage that goes.
	checkPlan(t, "start s; stage s { green a; next v when z > 0; next u when x < 9; } stage v { green; enter { x = 9; } next u when d; } stage u { green b; next s when y == 0; }",
		"start s; stage s { green a; next u when true; } stage u { green b; next s when true; }", 0, 2)
}

// P9.4, step 2: what is known in a stage's lists.
func TestPlanStages(t *testing.T) {
	checkPlan(t, "start s; stage s { green a; enter { if green(a) { count c; } if red(a) { run t; } } during { if green(b) { run t; } else { stop t; } } leave { if red(b) { reset t; } } next u when green(a) and d; } stage u { green b; next s when green(a) or red(a) and e; }",
		"start s; stage s { green a; enter { count c; } during { stop t; } leave { reset t; } next u when d; } stage u { green b; next s when e; }")
	// Behind during its own knowledge: not that of enter.
	checkPlan(t, "start s; stage s { green a; enter { x = 1; y = 2; } during { x = 3; z = y; } leave { z = x; y = z; } next u when x == 3 and d; next u when y == 2; } stage u { green b; next s when x == 3; }",
		"start s; stage s { green a; enter { x = 1; y = 2; } during { x = 3; z = y; } leave { z = 3; y = 3; } next u when d; next u when y == 2; } stage u { green b; next s when x == 3; }")
	// During does not begin with what enter knows; leave begins with what nexts begin with, not with their truths.
	checkPlan(t, "start s; stage s { green a; enter { x = 1; } during { y = x; } leave { z = y; } next u when y == 4; } stage u { green b; during { x = 5; if d { x = 6; } } leave { y = x; } next s when x == 5; next s when d; }",
		"start s; stage s { green a; enter { x = 1; } during { y = x; } leave { z = y; } next u when y == 4; } stage u { green b; during { x = 5; if d { x = 6; } } leave { y = x; } next s when x == 5; next s when d; }")
}

// P9.4, steps 3 and 4: nexts.
func TestPlanNexts(t *testing.T) {
	stages := " stage u { green b; next s when d; } stage v { green; next s when d; }"
	checkPlan(t, "start s; stage s { green a; next u when false; next v when d; next u when d; next v when t < 0; next u when e; next v when d == true; }"+stages,
		"start s; stage s { green a; next v when d; next u when e; } stage u { green b; next s when d; } stage v { green; next s when d; }")
	checkPlan(t, "start s; stage s { green a; next u when d; next v when t >= 0; next u when e; next v when false; }"+stages,
		"start s; stage s { green a; next u when d; next v when true; } stage u { green b; next s when d; } stage v { green; next s when d; }")
	checkPlan(t, "start s; stage s { green a; next u when true; next v when true; } "+stages,
		"start s; stage s { green a; next u when true; } stage u { green b; next s when d; }")
	// Equal once they are folded, not ahead of it; y > x is not folded to x < y.
	checkPlan(t, "start s; stage s { green a; enter { x = t; y = t; } next u when x < y; next u when y > x; next u when not (x >= y); next v when d; next v when not (not d); } "+stages,
		"start s; stage s { green a; enter { x = t; y = t; } next u when x < y; next u when y > x; next v when d; } stage u { green b; next s when d; } stage v { green; next s when d; }")
}

// P9.4, step 4: a stage without nexts has nothing to do when it is left.
func TestPlanNoNexts(t *testing.T) {
	checkPlan(t, "start s; stage s { green a; enter { count c; } during { run t; } leave { y = 5; } next u when d; } stage u { green b; enter { count c; } leave { x = 5; count c; } next s when elapsed < 0; }",
		"start s; stage s { green a; enter { count c; } during { run t; } leave { y = 5; } next u when d; } stage u { green b; enter { count c; } }")
	// What it set is set no more: x is known in the next round.
	checkPlan(t, "start s; stage s { green a; next u when x == 7; } stage u { green b; leave { x = 5; } next s when false; }",
		"start s; stage s { green a; next u when true; } stage u { green b; }")
	checkPlan(t, "start s; stage s { green a; leave { count c; } }", "start s; stage s { green a; }")
}

// P9.4, step 5: stages that are not reached go, the others keep their order and Ids.
func TestPlanReach(t *testing.T) {
	checkPlan(t, "start u; stage r { green; next s when d; } stage s { green a; next u when d; next w when e; } stage v { green a; next w when d; } stage u { green b; next s when d; next v when false; } stage w { green; next u when d; }",
		"start u; stage s { green a; next u when d; next w when e; } stage u { green b; next s when d; } stage w { green; next u when d; }", 1, 3, 4)
	checkPlan(t, "start u; stage s { green a; next u when d; } stage u { green b; } stage v { green a; next s when d; }", "start u; stage u { green b; }", 1)
	// A circle that nothing leads to, and a stage that is reached by way of one that is not.
	checkPlan(t, "start s; stage s { green a; next u when d; next v when y > 0; } stage u { green b; next s when d; } stage v { green; next w when d; } stage w { green; next v when d; }",
		"start s; stage s { green a; next u when d; } stage u { green b; next s when d; }")
}

// P9.4: the limits: 256 stages, 4096 nexts, 64 rounds.
func TestPlanLimits(t *testing.T) {
	x := api.Typed{Name: "p", Dets: []api.Det{{Name: "d"}}}
	for i := range 256 {
		s := api.TStage{Name: fmt.Sprintf("s%d", i), Id: i}
		for n := range 16 {
			s.Nexts = append(s.Nexts, api.TNext{To: (i + 1 + n) % 256, When: over(api.OpGt, leaf(api.OpElapsed, 0), leaf(api.OpInt, int32(n/2+1)))})
		}
		x.Stages = append(x.Stages, s)
	}
	got, e := opt.Plan(x)
	if e != api.OK || len(got.Stages) != 256 {
		t.Fatalf("%d, %d stages", e, len(got.Stages))
	}
	for i, s := range got.Stages {
		if len(s.Nexts) != 8 || s.Nexts[7].To != (i+15)%256 {
			t.Errorf("stage %d: %+v", i, s.Nexts)
		}
	}
	// Each variable is known once the one behind it is: so each round finds one.
	long := api.Typed{Name: "p", Stages: []api.TStage{{Name: "s"}}}
	for v := range 64 {
		long.Vars = append(long.Vars, api.Var{Name: fmt.Sprintf("v%d", v)})
	}
	for v := range 63 {
		isOther := over(api.OpNe, leaf(api.OpVar, int32(v+1)), leaf(api.OpInt, 0))
		long.Stages[0].Enter = append(long.Stages[0].Enter, api.Stmt{Kind: api.StIf, Expr: isOther}, api.Stmt{Kind: api.StSet, Ix: v, Expr: leaf(api.OpElapsed, 0)}, api.Stmt{Kind: api.StEnd})
	}
	if got, e := opt.Plan(long); e != api.OK || len(got.Stages[0].Enter) != 0 || len(got.Vars) != 64 {
		t.Errorf("%d: %s", e, toldPlan(got))
	}
}

// P9.4: thousands of nexts of one stage, of which no two are equal, or all are.
func TestPlanManyNexts(t *testing.T) {
	x := api.Typed{Name: "p", Dets: []api.Det{{Name: "d"}}, Stages: []api.TStage{{Name: "s"}, {Name: "u", Id: 1}}}
	for i := range 4096 {
		x.Stages[0].Nexts = append(x.Stages[0].Nexts, api.TNext{To: 1, When: over(api.OpEq, leaf(api.OpElapsed, 0), leaf(api.OpInt, int32(i)))})
	}
	if got, e := opt.Plan(x); e != api.OK || !same(got, x) {
		t.Errorf("%d nexts, %d", len(got.Stages[0].Nexts), e)
	}
	for i := range x.Stages[0].Nexts {
		x.Stages[0].Nexts[i].When = over(api.OpGt, leaf(api.OpInt, 5), leaf(api.OpElapsed, 0))
	}
	got, e := opt.Plan(x)
	if e != api.OK || len(got.Stages[0].Nexts) != 1 || !slices.Equal(got.Stages[0].Nexts[0].When, over(api.OpLt, leaf(api.OpElapsed, 0), leaf(api.OpInt, 5))) {
		t.Errorf("%d nexts, %d", len(got.Stages[0].Nexts), e)
	}
}

// P9.4: a plan that is not sound is refused, and nothing is told beside.
func TestWrongPlans(t *testing.T) {
	good := resolved(t, street+"start s; stage s { green a; next u when d; } stage u { green b; next s when d; } }")
	for name, spoil := range map[string]func(x *api.Typed){
		"no stages": func(x *api.Typed) { x.Stages = nil }, "no start": func(x *api.Typed) { x.Start = -1 }, "a start behind": func(x *api.Typed) { x.Start = 2 },
		"no name": func(x *api.Typed) { x.Name = "" }, "a name twice": func(x *api.Typed) { x.Timers[0] = "d" }, "a next to itself": func(x *api.Typed) { x.Stages[0].Nexts[0].To = 0 }, "a next to nowhere": func(x *api.Typed) { x.Stages[0].Nexts[0].To = 2 },
		"a guard that is none": func(x *api.Typed) { x.Stages[0].Nexts[0].When = leaf(api.OpElapsed, 0) }, "a detector too many": func(x *api.Typed) { x.Stages[0].Nexts[0].When = leaf(api.OpDet, 2) }, "Ids that fall": func(x *api.Typed) { x.Stages[0].Id = 1 }, "an open if": func(x *api.Typed) { x.Stages[1].Leave = []api.Stmt{{Kind: api.StIf, Expr: leaf(api.OpDet, 0)}} },
		"green of nothing": func(x *api.Typed) { x.Stages[1].Green = 4 }, "a group's min": func(x *api.Typed) { x.Tables.Groups[0].Min = 0 }, "a conflict twice": func(x *api.Typed) { x.Tables.Conflicts = append(x.Tables.Conflicts, x.Tables.Conflicts[0]) },
	} {
		x := copied(good)
		spoil(&x)
		if got, e := opt.Plan(x); e != api.ErrTyped || !same(got, api.Typed{}) {
			t.Errorf("%s: %d, %+v", name, e, got)
		}
	}
	if got, e := opt.Plan(api.Typed{}); e != api.ErrTyped || !same(got, api.Typed{}) {
		t.Errorf("the zero plan: %d, %+v", e, got)
	}
}

// planRules are what the second way counts of plans.
var planRules = []string{"next false", "next again", "next behind true", "stage gone", "rounds 1", "rounds 2", "rounds 3"}

// P9.4, P9.7 to P9.9: at random against the second way; what is answered is sound, and answered again.
func TestPlanAtRandom(t *testing.T) {
	t.Parallel()
	r := rand.New(rand.NewSource(94))
	used := map[string]int{}
	for range 6000 {
		x := anyTyped(r)
		if !check.Sound(x) {
			t.Fatalf("not sound: %+v", x)
		}
		want := modelPlan(x, used)
		if got, e := opt.Plan(x); e != api.OK || !same(got, want) {
			t.Fatalf("Plan(%s): %s, %d, want %s", toldPlan(x), toldPlan(got), e, toldPlan(want))
		}
	}
	allUsed(t, used, 50, slices.Concat(planRules, bodyRules)...)
}

// DOC.md's example: nothing sets longest, so its word is put in; nothing else changes.
func TestPlanSmall(t *testing.T) {
	const small = `plan small {
		group main vehicle min 7 amber 3 lead 2; group side vehicle min 5 amber 3; group walk pedestrian min 6 amber 4;
		conflict main side 5 6; conflict main walk 4 8;
		detector loop hold 2; detector push latch; timer rest; counter calls; var longest = 20;
		cond due = elapsed >= longest or loop and elapsed > 9;
		start flow;
		stage flow { green main; enter { reset rest; run rest; } next cross when push; next turn when due; }
		stage turn { green side; next flow when not loop or elapsed >= 12; }
		stage cross { green side, walk; enter { count calls; clear push; } next flow when elapsed >= 6; }
	}`
	given := resolved(t, small)
	want := resolved(t, strings.ReplaceAll(small, "elapsed >= longest", "elapsed >= 20"))
	got, e := opt.Plan(given)
	if e != api.OK || !same(got, want) {
		t.Errorf("%s, %d, want %s", toldPlan(got), e, toldPlan(want))
	}
	ins := anyIns(rand.New(rand.NewSource(9)), 400)
	a, _ := sim.Run(given, ins)
	if b, _ := sim.Run(got, ins); !slices.Equal(a, b) {
		t.Errorf("small plays otherwise")
	}
}
