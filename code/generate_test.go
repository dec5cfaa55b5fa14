package code_test

import (
	"fmt"
	"math/rand"
	"slices"
	"testing"

	"junction/api"
	"junction/check"
	"junction/code"
	"junction/opt"
	"junction/rom"
)

// twoPlan is chapter 8's example.
const twoPlan = `plan two {
	group a vehicle min 2 amber 1;
	group b pedestrian min 3 amber 0;
	conflict a b 2 1;
	detector push latch;
	counter walks;
	start cars;
	stage cars { green a; next walk when push; }
	stage walk { green b; enter { count walks; } during { if red(a) { clear push; } } next cars when elapsed >= 2; }
}`

// smallPlan is DOC.md's example.
const smallPlan = `plan small {
	group main vehicle min 7 amber 3 lead 2;
	group side vehicle min 5 amber 3;
	group walk pedestrian min 6 amber 4;
	conflict main side 5 6;
	conflict main walk 4 8;
	detector loop hold 2;
	detector push latch;
	timer rest;
	counter calls;
	var longest = 20;
	cond due = elapsed >= longest or loop and elapsed > 9;
	start flow;
	stage flow { green main; enter { reset rest; run rest; } next cross when push; next turn when due; }
	stage turn { green side; next flow when not loop or elapsed >= 12; }
	stage cross { green side, walk; enter { count calls; clear push; } next flow when elapsed >= 6; }
}`

// P11.4: the chapter's two examples.
func TestGenerateExamples(t *testing.T) {
	t.Parallel()
	m := generated(t, resolved(t, "plan p { start s; stage s { green; } }"))
	if want := (api.Image{Name: "p", Slots: []api.Slot{{Enter: 0, Tick: 1, Leave: 2}}, Code: written("end, end, end")}); !same(m, want) {
		t.Errorf("one stage: %+v", m)
	}
	m = generated(t, resolved(t, twoPlan))
	want := api.Image{
		Name: "two",
		Tables: api.Tables{
			Groups:    []api.Group{{Name: "a", Sort: 1, Min: 2, Amber: 1}, {Name: "b", Sort: 2, Min: 3}},
			Conflicts: []api.Conflict{{A: 0, B: 1, AB: 2, BA: 1}},
		},
		Dets:     []api.Det{{Name: "push", Latch: true}},
		Counters: 1,
		Slots:    []api.Slot{{Id: 0, Green: 1, Enter: 0, Tick: 1, Leave: 5}, {Id: 1, Green: 2, Enter: 6, Tick: 8, Leave: 17}},
		Depth:    2,
		Code:     written("end, det 0, if 4, pick 1, end, end, count 0, end, red 0, if 11, clear 0, elapsed, small 2, ge, if 16, pick 0, end, end"),
	}
	if !same(m, want) {
		t.Errorf("two: %+v\n%s", m, told(m.Code))
	}
}

// P11.4: all fields of a plan that has something of everything.
func TestGenerateSmall(t *testing.T) {
	t.Parallel()
	x := resolved(t, smallPlan)
	m := generated(t, x)
	want := api.Image{
		Name: "small", Tables: x.Tables, Dets: x.Dets, Timers: 1, Counters: 1, Vars: []int32{20}, Start: 0, Depth: 2,
		Slots: []api.Slot{{Id: 0, Green: 1, Enter: 0, Tick: 3, Leave: 18}, {Id: 1, Green: 2, Enter: 19, Tick: 20, Leave: 29}, {Id: 2, Green: 6, Enter: 30, Tick: 33, Leave: 39}},
		Code: written(`reset 0, run 0, end,
			det 1, if 6, pick 2,
			elapsed, var 0, ge, orjump 15, det 0, andjump 15, elapsed, small 9, gt, if 17, pick 1, end,
			end,
			end,
			det 0, not, orjump 26, elapsed, small 12, ge, if 28, pick 0, end,
			end,
			count 0, clear 1, end,
			elapsed, small 6, ge, if 38, pick 0, end,
			end`),
	}
	if !same(m, want) {
		t.Errorf("%+v\n%s\nwant %s", m, told(m.Code), told(want.Code))
	}
}

// P11.4: the order of the sections, one pool for all of them, the depth of all expressions; Ids that are no places.
func TestGenerateSections(t *testing.T) {
	t.Parallel()
	x := resolved(t, `plan p { group g vehicle min 1 amber 0; timer t; timer u; var v = -7; var w = 5; start b;
		stage a { green; enter { v = 300; } during { v = 200; if v > 300 { w = 400; } } leave { v = 500; } next b when v > 400; next b when w == 200; }
		stage b { green g; leave { w = 1 + (2 + (3 + 500)); } next a when true; } }`)
	x.Stages[0].Id, x.Stages[1].Id = 7, 255
	m := generated(t, x)
	want := api.Image{
		Name: "p", Tables: x.Tables, Timers: 2, Vars: []int32{-7, 5}, Pool: []int32{300, 200, 400, 500}, Start: 1, Depth: 4,
		Slots: []api.Slot{{Id: 7, Green: 0, Enter: 0, Tick: 3, Leave: 22}, {Id: 255, Green: 1, Enter: 25, Tick: 26, Leave: 30}},
		Code: written(`const 0, store 0, end,
			const 1, store 0, var 0, const 0, gt, if 11, const 2, store 1,
			var 0, const 2, gt, if 16, pick 1, var 1, const 1, eq, if 21, pick 1, end,
			const 3, store 0, end,
			end,
			truth 1, if 29, pick 0, end,
			small 1, small 2, small 3, const 3, add, add, add, store 1, end`),
	}
	if !same(m, want) {
		t.Errorf("%+v\n%s\nwant %s", m, told(m.Code), told(want.Code))
	}
}

// P11.4: what is not sound is refused.
func TestGenerateRefused(t *testing.T) {
	t.Parallel()
	if m, e := code.Generate(api.Typed{}); e != api.ErrTyped || !same(m, api.Image{}) {
		t.Errorf("the zero plan: %+v, %d", m, e)
	}
	for i, spoil := range []func(*api.Typed){
		func(x *api.Typed) { x.Name = "min" },
		func(x *api.Typed) { x.Start = 2 },
		func(x *api.Typed) { x.Start = -1 },
		func(x *api.Typed) { x.Stages = nil },
		func(x *api.Typed) { x.Stages[1].Id = 0 },
		func(x *api.Typed) { x.Stages[1].Id = 256 },
		func(x *api.Typed) { x.Stages[0].Green = 4 },
		func(x *api.Typed) { x.Stages[0].Nexts[0].To = 0 },
		func(x *api.Typed) { x.Stages[0].Nexts[0].To = 2 },
		func(x *api.Typed) { x.Stages[0].Nexts[0].When = nil },
		func(x *api.Typed) { x.Stages[0].Nexts[0].When = leaf(api.OpInt, 1) },
		func(x *api.Typed) { x.Stages[0].Nexts[0].When = leaf(api.OpDet, 1) },
		func(x *api.Typed) { x.Stages[1].Enter[0].Ix = 1 },
		func(x *api.Typed) { x.Stages[1].During = x.Stages[1].During[:2] },
		func(x *api.Typed) { x.Stages[1].Leave = []api.Stmt{{Kind: api.StEnd}} },
		func(x *api.Typed) { x.Tables.Groups[0].Min = 0 },
		func(x *api.Typed) { x.Dets[0].Delay = 3601 },
		func(x *api.Typed) { x.Counters = append(x.Counters, "walks") },
		func(x *api.Typed) { x.Stages = make([]api.TStage, 1<<16) },
	} {
		x := resolved(t, twoPlan)
		spoil(&x)
		if m, e := code.Generate(x); e != api.ErrTyped || !same(m, api.Image{}) {
			t.Errorf("%d: %+v, %d", i, m, e)
		}
	}
}

// fullPlan has as much of everything as there may be: 16384 nodes in 4096 statements and 4096 nexts of 256 stages.
func fullPlan() api.Typed {
	m := fullMaker(rand.New(rand.NewSource(5)))
	x := m.things()
	for a := range 64 {
		for b := a + 1; b < 64; b++ {
			x.Tables.Conflicts = append(x.Tables.Conflicts, api.Conflict{A: a, B: b, AB: 3600, BA: 3600})
		}
	}
	word := int32(1000)
	for i := range 256 {
		s := api.TStage{Name: fmt.Sprint("s", i), Id: i, Green: ^uint64(i)}
		for k := range 16 {
			set := api.Stmt{Kind: api.StSet, Ix: k, Expr: over(api.OpAdd, leaf(api.OpInt, word), leaf(api.OpInt, word+1))}
			word += 2
			list := pick(m.r, &s.Enter, &s.During, &s.Leave)
			*list = append(*list, set)
			s.Nexts = append(s.Nexts, api.TNext{To: (i + k + 1) % 256, When: leaf(api.OpDet, int32(k))})
		}
		x.Stages = append(x.Stages, s)
	}
	x.Start = 255
	return x
}

// P11.4: a sound plan never has too much code.
func TestGenerateTheGreatestPlans(t *testing.T) {
	t.Parallel()
	x := fullPlan()
	m := generated(t, x)
	if !same(m, modelImage(x)) {
		t.Error("the full plan's image is another one")
	}
	if len(m.Pool) != 8192 || len(m.Code) != 16384+4096+2*4096+3*256 || m.Slots[255].Leave >= len(m.Code) {
		t.Errorf("%d words, %d instructions", len(m.Pool), len(m.Code))
	}
	// As many ifs with an else as there may be.
	x = resolved(t, "plan p { detector d; start s; stage s { green; } }")
	one := []api.Stmt{{Kind: api.StIf, Expr: leaf(api.OpDet, 0)}, {Kind: api.StElse}, {Kind: api.StEnd}}
	x.Stages[0].Enter = slices.Repeat(one, 1365)
	if m := generated(t, x); !same(m, modelImage(x)) || len(m.Code) != 3*1365+3 {
		t.Error("the image with 1365 ifs is another one")
	}
	// The longest expressions, up to all nodes that there may be.
	x.Stages[0].Enter = nil
	x.Vars = []api.Var{{Name: "v"}}
	for i := range int32(64) {
		e := over(api.OpNeg, chain(api.OpAdd, api.OpInt, 1000*i, 128))
		x.Stages[0].During = append(x.Stages[0].During, api.Stmt{Kind: api.StSet, Expr: e})
	}
	if m := generated(t, x); !same(m, modelImage(x)) || len(m.Code) != 64*257+3 || m.Depth != 2 {
		t.Error("the image with 64 long expressions is another one")
	}
}

// P11.4: plans at random, against the model; what the optimizer makes of them too.
func TestGenerateAtRandom(t *testing.T) {
	t.Parallel()
	r := rand.New(rand.NewSource(6))
	for range 1500 {
		x := anyTyped(r)
		smaller, _ := opt.Plan(x)
		for _, x := range []api.Typed{x, smaller} {
			m := generated(t, x)
			if want := modelImage(x); !same(m, want) {
				t.Fatalf("Generate(%+v) = %+v, want %+v", x, m, want)
			}
			if b, e := rom.Encode(m); e != api.OK || len(b) == 0 {
				t.Fatalf("the image of %+v is not formed", x)
			}
		}
	}
}

// P11.4: just the plans are taken that are sound.
func TestSpoiltPlans(t *testing.T) {
	t.Parallel()
	r := rand.New(rand.NewSource(7))
	refused := 0
	for range 2000 {
		x := spoilt(r, anyTyped(r))
		m, e := code.Generate(x)
		if !check.Sound(x) {
			refused++
			if e != api.ErrTyped || !same(m, api.Image{}) {
				t.Fatalf("%+v is not sound: %+v, %d", x, m, e)
			}
		} else if e != api.OK || !same(m, modelImage(x)) {
			t.Fatalf("%+v: %+v, %d", x, m, e)
		}
	}
	if refused < 400 || refused > 1900 {
		t.Errorf("%d of 2000 are refused", refused)
	}
}
