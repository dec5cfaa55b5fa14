package check_test

import (
	"math/rand"
	"testing"

	"junction/api"
	"junction/check"
	"junction/tree"
)

// P5.3: the chapter's examples of what is taken.
func TestResolveExamples(t *testing.T) {
	x := taken(t, "const k = -5; var x = 0; start s; stage s { green; enter { x = k + 2; } }")
	if want := []api.Stmt{{Kind: api.StSet, Expr: []api.Node{node(api.OpInt, 5), node(api.OpNeg), node(api.OpInt, 2), node(api.OpAdd)}}}; !same(x.Stages[0].Enter, want) {
		t.Errorf("%+v", x.Stages[0].Enter)
	}
	x = taken(t, "detector d; cond c = d or elapsed > 3; start s; stage s { green; next t when not c; } stage t { green; }")
	if want := []api.TNext{{To: 1, When: []api.Node{node(api.OpDet), node(api.OpElapsed), node(api.OpInt, 3), node(api.OpGt), node(api.OpOr), node(api.OpNot)}}}; !same(x.Stages[0].Nexts, want) {
		t.Errorf("%+v", x.Stages[0].Nexts)
	}
	x = taken(t, "timer t; counter c; start s; stage s { green; during { reset t; reset c; if t > 2 { stop t; } } }")
	if want := []api.Stmt{{Kind: api.StReset}, {Kind: api.StZero}, {Kind: api.StIf, Expr: []api.Node{node(api.OpTimer), node(api.OpInt, 2), node(api.OpGt)}}, {Kind: api.StStop}, {Kind: api.StEnd}}; !same(x.Stages[0].During, want) {
		t.Errorf("%+v", x.Stages[0].During)
	}
	x = taken(t, "group b vehicle min 5 amber 3; group a vehicle min 5 amber 3; conflict a b 4 6; start s; stage s { green a; }")
	if want := []api.Conflict{{A: 0, B: 1, AB: 6, BA: 4}}; !same(x.Tables.Conflicts, want) || x.Stages[0].Green != 2 {
		t.Errorf("%+v", x)
	}
}

// P5.3: DOC.md's example, all of it.
func TestResolveSmall(t *testing.T) {
	p, f := tree.Parse(smallPlan)
	if f != (api.Fault{}) {
		t.Fatal(f)
	}
	x, f := check.Resolve(p)
	due := []api.Node{node(api.OpElapsed), node(api.OpVar), node(api.OpGe), node(api.OpDet), node(api.OpElapsed), node(api.OpInt, 9), node(api.OpGt), node(api.OpAnd), node(api.OpOr)}
	want := api.Typed{
		Name: "small",
		Tables: api.Tables{
			Groups:    []api.Group{{Name: "main", Sort: api.Vehicle, Min: 7, Amber: 3, Lead: 2}, {Name: "side", Sort: api.Vehicle, Min: 5, Amber: 3}, {Name: "walk", Sort: api.Pedestrian, Min: 6, Amber: 4}},
			Conflicts: []api.Conflict{{A: 0, B: 1, AB: 5, BA: 6}, {A: 0, B: 2, AB: 4, BA: 8}},
		},
		Dets:     []api.Det{{Name: "loop", Hold: 2}, {Name: "push", Latch: true}},
		Timers:   []string{"rest"},
		Counters: []string{"calls"},
		Vars:     []api.Var{{Name: "longest", Init: 20}},
		Stages: []api.TStage{
			{Name: "flow", Id: 0, Green: 1, Enter: []api.Stmt{{Kind: api.StReset}, {Kind: api.StRun}}, Nexts: []api.TNext{{To: 2, When: []api.Node{node(api.OpDet, 1)}}, {To: 1, When: due}}},
			{Name: "turn", Id: 1, Green: 2, Nexts: []api.TNext{{To: 0, When: []api.Node{node(api.OpDet), node(api.OpNot), node(api.OpElapsed), node(api.OpInt, 12), node(api.OpGe), node(api.OpOr)}}}},
			{Name: "cross", Id: 2, Green: 6, Enter: []api.Stmt{{Kind: api.StCount}, {Kind: api.StClear, Ix: 1}}, Nexts: []api.TNext{{To: 0, When: []api.Node{node(api.OpElapsed), node(api.OpInt, 6), node(api.OpGe)}}}},
		},
		Start: 0,
	}
	if f != (api.Fault{}) || !same(x, want) {
		t.Errorf("%+v, %v\nwant %+v", x, f, want)
	}
}

// P5.3: numbers that are not 0: of each kind the third.
func TestResolveNumbers(t *testing.T) {
	x := taken(t, `
		group g0 vehicle min 1 amber 1; group g1 vehicle min 1 amber 1; group g2 pedestrian min 3 amber 2 lead 1;
		detector d0; detector d1; detector d2 latch delay 4 hold 5;
		timer t0; timer t1; timer t2; counter n0; counter n1; counter n2; var v0 = 0; var v1 = 1; var v2 = -7;
		const k0 = 5; const k1 = 0; cond c0 = true; cond c1 = c0 and d2; start z;
		stage x { green; } stage y { green; leave { v2 = v2 + t2 * n2 - k0 / k1; reset t2; reset n2; run t2; stop t2; count n2; clear d2; if green(g2) == red(g1) { } else { } } next x when c1 or not d2; }
		stage z { green g2, g0; }`)
	want := []api.Stmt{
		{Kind: api.StSet, Ix: 2, Expr: []api.Node{node(api.OpVar, 2), node(api.OpTimer, 2), node(api.OpCounter, 2), node(api.OpMul), node(api.OpAdd), node(api.OpInt, 5), node(api.OpInt), node(api.OpDiv), node(api.OpSub)}},
		{Kind: api.StReset, Ix: 2}, {Kind: api.StZero, Ix: 2}, {Kind: api.StRun, Ix: 2}, {Kind: api.StStop, Ix: 2}, {Kind: api.StCount, Ix: 2}, {Kind: api.StClear, Ix: 2},
		{Kind: api.StIf, Expr: []api.Node{node(api.OpGreen, 2), node(api.OpRed, 1), node(api.OpEq)}}, {Kind: api.StElse}, {Kind: api.StEnd},
	}
	next := []api.TNext{{To: 0, When: []api.Node{node(api.OpBool, 1), node(api.OpDet, 2), node(api.OpAnd), node(api.OpDet, 2), node(api.OpNot), node(api.OpOr)}}}
	if !same(x.Stages[1].Leave, want) || !same(x.Stages[1].Nexts, next) || x.Stages[2].Green != 5 || x.Start != 2 || x.Stages[2].Id != 2 {
		t.Errorf("%+v", x)
	}
	if !same(x.Dets[2], api.Det{Name: "d2", Latch: true, Delay: 4, Hold: 5}) || !same(x.Vars[2], api.Var{Name: "v2", Init: -7}) || x.Timers[2] != "t2" || x.Counters[1] != "n1" {
		t.Errorf("%+v", x)
	}
}

// P5.3, P5.4: all 64 groups and all their conflicts, declared in any order, are sorted.
func TestAllConflicts(t *testing.T) {
	p := api.Plan{Name: "p", Decls: many(t, api.DeGroup, 64)}
	var all []api.Decl
	for a := range 64 {
		for b := a + 1; b < 64; b++ {
			d := api.Decl{Kind: api.DeConflict, Name: letters(a), With: letters(b), N: [3]int32{int32(a), int32(b)}}
			if (a+b)%3 == 0 {
				d.Name, d.With, d.N[0], d.N[1] = d.With, d.Name, d.N[1], d.N[0]
			}
			all = append(all, d)
		}
	}
	r := rand.New(rand.NewSource(5))
	r.Shuffle(len(all), func(i, j int) { all[i], all[j] = all[j], all[i] })
	p.Decls = append(append(p.Decls, all...), api.Decl{Kind: api.DeStart, Name: "s"}, api.Decl{Kind: api.DeStage, Name: "s", Stage: api.Stage{Green: []string{letters(63), letters(0)}}})
	x := asks(t, "all conflicts", p, api.Fault{})
	i := 0
	for a := range 64 {
		for b := a + 1; b < 64; b++ {
			if x.Tables.Conflicts[i] != (api.Conflict{A: a, B: b, AB: a, BA: b}) {
				t.Fatalf("conflict %d is %+v", i, x.Tables.Conflicts[i])
			}
			i++
		}
	}
	if len(x.Tables.Conflicts) != i || x.Stages[0].Green != 1<<63+1 {
		t.Errorf("%d conflicts, green %x", len(x.Tables.Conflicts), x.Stages[0].Green)
	}
	p.Decls = append(p.Decls, api.Decl{Kind: api.DeConflict, Name: letters(40), With: letters(2), At: at(8, 8)})
	asks(t, "one more conflict", p, fault(api.ErrPair, at(8, 8)))
}

// agrees holds what Resolve and Symbols answer of a plan against the second way, and tells the error.
func agrees(t *testing.T, p api.Plan) api.Errno {
	t.Helper()
	ahead := copied(p)
	x, f := check.Resolve(p)
	y, g := modelResolve(p)
	if f != g || !same(x, y) {
		t.Fatalf("Resolve: %v, the second way %v, of %+v\n%+v\n%+v", f, g, p, x, y)
	}
	list, f2 := check.Symbols(p)
	// Of these alone Symbols knows.
	early := g.Code == api.ErrTree || g.Code == api.ErrTwice
	if early && f2 != g || !early && f2 != (api.Fault{}) || f2 != (api.Fault{}) && len(list) != 0 {
		t.Fatalf("Symbols: %v, %v, Resolve: %v, of %+v", list, f2, g, p)
	}
	if !same(p, ahead) || shares(p, x, list) {
		t.Fatalf("a plan is changed, or memory shared: %+v", p)
	}
	if f == (api.Fault{}) {
		wellTyped(t, x)
	}
	return f.Code
}

// wellTyped asks for P5.4.
func wellTyped(t *testing.T, x api.Typed) {
	t.Helper()
	if !check.Sound(x) || !modelSound(x) {
		t.Fatalf("not sound: %+v", x)
	}
	for i, s := range x.Stages {
		if s.Id != i {
			t.Fatalf("stage %d has Id %d", i, s.Id)
		}
	}
	if negative(x) {
		t.Fatalf("an OpInt below 0: %+v", x)
	}
}

// P5.1, P5.3, P5.4: plans at random, right and wrong ones, against the second way.
func TestResolveAtRandom(t *testing.T) {
	t.Parallel()
	r := rand.New(rand.NewSource(51))
	counts := map[api.Errno]int{}
	for i := range 10000 {
		counts[agrees(t, anyPlan(r, pick(r, 0, 0, 20, 60, 200)))]++
		if i%4 == 0 {
			counts[agrees(t, spoilt(r, anyPlan(r, 0)))]++
		}
	}
	for _, e := range []api.Errno{api.OK, api.ErrTree, api.ErrTwice, api.ErrUnknown, api.ErrKind, api.ErrType, api.ErrRange, api.ErrStart, api.ErrPair, api.ErrSelf, api.ErrSize} {
		if counts[e] < 15 {
			t.Errorf("error %d is met %d times alone", e, counts[e])
		}
	}
}

// P5.3: each declaration of plans at random left out, doubled, or put elsewhere.
func TestResolveOfOtherOrders(t *testing.T) {
	t.Parallel()
	r := rand.New(rand.NewSource(52))
	for range 3000 {
		p := anyPlan(r, 0)
		i, j := r.Intn(len(p.Decls)), r.Intn(len(p.Decls))
		p.Decls[i], p.Decls[j] = p.Decls[j], p.Decls[i]
		agrees(t, p)
		p.Decls = append(p.Decls[:i:i], p.Decls[i+1:]...)
		agrees(t, p)
	}
}
