package check_test

import (
	"math"
	"math/rand"
	"slices"
	"testing"

	"junction/api"
	"junction/check"
	"junction/pretty"
	"junction/tree"
)

// P5.6: small there and back: the declarations in their order, names for numbers.
func TestBackOfSmall(t *testing.T) {
	p, _ := tree.Parse(smallPlan)
	x, f := check.Resolve(p)
	if f != (api.Fault{}) {
		t.Fatal(f)
	}
	q, e := check.Back(x)
	want, _ := tree.Parse(`plan small {
	group main vehicle min 7 amber 3 lead 2;
	group side vehicle min 5 amber 3;
	group walk pedestrian min 6 amber 4;
	conflict main side 5 6;
	conflict main walk 4 8;
	detector loop hold 2;
	detector push latch;
	timer rest;
	counter calls;
	var longest = 20;
	stage flow { green main; enter { reset rest; run rest; } next cross when push; next turn when elapsed >= longest or loop and elapsed > 9; }
	stage turn { green side; next flow when not loop or elapsed >= 12; }
	stage cross { green side, walk; enter { count calls; clear push; } next flow when elapsed >= 6; }
	start flow;
}`)
	if e != api.OK || !same(q, tree.Bare(want)) {
		t.Errorf("%d, %+v", e, q)
	}
}

// P5.6: each kind of statements and of nodes, and a conflict and a green list that were written in another order.
func TestBackOfEachKind(t *testing.T) {
	x := taken(t, `group b vehicle min 1 amber 1; group a pedestrian min 2 amber 2 lead 3; conflict a b 4 5; detector d latch delay 6 hold 7; counter n; timer r; const k = -9; cond c = d or green(a) != red(b); var v = -2147483647; start z;
		stage y { green a, b; enter { v = k + v * r - n; reset r; reset n; run r; stop r; count n; clear d; if c { } else if true { } } next z when c; } stage z { green; }`)
	q, e := check.Back(x)
	want := parsed(t, `group b vehicle min 1 amber 1; group a pedestrian min 2 amber 2 lead 3; conflict b a 5 4; detector d latch delay 6 hold 7; timer r; counter n; var v = -2147483647;
		stage y { green b, a; enter { v = -9 + v * r - n; reset r; reset n; run r; stop r; count n; clear d; if d or green(a) != red(b) { } else if true { } } next z when d or green(a) != red(b); } stage z { green; } start z;`)
	if e != api.OK || !same(q, tree.Bare(want)) {
		t.Errorf("%d, %+v\nwant %+v", e, q, tree.Bare(want))
	}
}

// writable is P5.6's condition, by its words.
func writable(x api.Typed) bool {
	if !modelSound(x) || negative(x) {
		return false
	}
	for i, s := range x.Stages {
		if s.Id != i {
			return false
		}
	}
	return !slices.ContainsFunc(x.Vars, func(v api.Var) bool { return v.Init == math.MinInt32 })
}

// thereAndBack asks for all that P5.6 says of a typed plan, and tells whether it is refused.
func thereAndBack(t *testing.T, x api.Typed) bool {
	t.Helper()
	ahead := copied(x)
	p, e := check.Back(x)
	if !same(x, ahead) || shares(x, p) {
		t.Fatalf("a typed plan is changed, or memory shared: %+v", x)
	}
	if !writable(x) {
		if e != api.ErrTyped || !same(p, api.Plan{}) {
			t.Fatalf("%d, %+v of %+v", e, p, x)
		}
		return true
	}
	if e != api.OK || !tree.Formed(p) || !same(p, tree.Bare(p)) {
		t.Fatalf("%d, %+v of %+v", e, p, x)
	}
	y, f := check.Resolve(p)
	if f != (api.Fault{}) || !same(y, x) {
		t.Fatalf("%v, %+v\nof %+v", f, y, x)
	}
	var order []int
	for _, d := range p.Decls {
		order = append(order, slices.Index([]int{api.DeGroup, api.DeConflict, api.DeDetector, api.DeTimer, api.DeCounter, api.DeVar, api.DeStage, api.DeStart}, d.Kind))
	}
	if !slices.IsSorted(order) || order[0] < 0 {
		t.Fatalf("the declarations' order: %v", order)
	}
	return false
}

// P5.6: what is refused, and what is just not.
func TestBackRefuses(t *testing.T) {
	good := func() api.Typed {
		x := soundPlan()
		x.Vars[0].Init = -math.MaxInt32
		x.Stages[0].Enter[0].Expr[0].Val = 3
		x.Stages[1].Id, x.Stages[2].Id = 1, 2
		return x
	}
	if thereAndBack(t, good()) {
		t.Error("a good one is refused")
	}
	for i, spoil := range []func(*api.Typed){
		func(x *api.Typed) { x.Stages[2].Id = 3 },
		func(x *api.Typed) { x.Stages[0].Id, x.Stages[1].Id, x.Stages[2].Id = 1, 2, 3 },
		func(x *api.Typed) { x.Vars[1].Init = math.MinInt32 },
		func(x *api.Typed) { x.Stages[0].Enter[0].Expr[0].Val = -1 },
		func(x *api.Typed) { x.Stages[0].Enter[0].Expr[0].Val = math.MinInt32 },
		func(x *api.Typed) {
			x.Stages[2].Nexts = []api.TNext{{To: 0, When: []api.Node{node(api.OpInt, 1), node(api.OpInt, -1), node(api.OpLt)}}}
		},
		func(x *api.Typed) {
			x.Stages[1].During[0].Expr = []api.Node{node(api.OpInt, 1), node(api.OpInt, -1), node(api.OpLt)}
		},
		func(x *api.Typed) { *x = api.Typed{} },
	} {
		x := good()
		spoil(&x)
		if !thereAndBack(t, x) {
			t.Errorf("row %d is taken", i)
		}
	}
	for clause, list := range spoilers() {
		for i, spoil := range list {
			x := good()
			spoil(&x)
			if !thereAndBack(t, x) {
				t.Errorf("%s, row %d: it is taken", clause, i)
			}
		}
	}
}

// P5.6: typed plans at random, and the same with a field changed.
func TestBackAtRandom(t *testing.T) {
	t.Parallel()
	r := rand.New(rand.NewSource(56))
	refused := 0
	for range 2000 {
		x := anyTyped(r)
		for _, y := range []api.Typed{x, spoilt(r, x)} {
			if thereAndBack(t, y) {
				refused++
			}
		}
	}
	if !within(refused, 500, 3500) {
		t.Errorf("%d of 4000 are refused", refused)
	}
}

// P5.6: a typed plan at its limits goes back and forth, and so does its text.
func TestBackAtLimits(t *testing.T) {
	x := api.Typed{Name: "p", Tables: fullGrid()}
	for i := range 64 {
		x.Tables.Groups[i].Name = "g" + letters(i)
		x.Dets = append(x.Dets, api.Det{Name: "d" + letters(i), Latch: i%2 == 0, Delay: 3600, Hold: 3600})
		x.Timers = append(x.Timers, "t"+letters(i))
		x.Counters = append(x.Counters, "c"+letters(i))
		x.Vars = append(x.Vars, api.Var{Name: "v" + letters(i), Init: int32(i) - 32})
	}
	for i := range 256 {
		s := api.TStage{Name: "s" + letters(i), Id: i, Green: 1 << (i % 64)}
		s.Enter = []api.Stmt{{Kind: api.StSet, Ix: i % 64, Expr: []api.Node{node(api.OpTimer, 63), node(api.OpCounter, 63), node(api.OpSub)}}}
		s.Nexts = []api.TNext{{To: 255 - i, When: []api.Node{node(api.OpDet, 63), node(api.OpGreen, 63), node(api.OpRed, 63), node(api.OpAnd), node(api.OpOr)}}}
		x.Stages = append(x.Stages, s)
	}
	x.Start = 255
	if thereAndBack(t, x) {
		t.Fatal("refused")
	}
	x.Tables.Conflicts = x.Tables.Conflicts[:50]
	p, _ := check.Back(x)
	text, e := pretty.Print(p)
	if e != api.OK {
		t.Fatal(e)
	}
	q, f := tree.Parse(text)
	y, g := check.Resolve(q)
	if f != (api.Fault{}) || g != (api.Fault{}) || !same(x, y) {
		t.Errorf("%v, %v", f, g)
	}
}
