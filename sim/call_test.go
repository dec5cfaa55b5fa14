package sim_test

import (
	"math"
	"testing"

	"junction/api"
	"junction/sim"
)

// things is a plan with something of everything; its Ids are not its places.
func things() api.Typed {
	yes := func() []api.Node { return leaf(api.OpBool, 1) }
	return api.Typed{
		Name:     "p",
		Tables:   api.Tables{Groups: []api.Group{{Name: "g", Sort: api.Vehicle, Min: 1, Amber: 2, Lead: 2}, {Name: "h", Sort: api.Pedestrian, Min: 2}, {Name: "i", Sort: api.Vehicle, Min: 1, Amber: 2, Lead: 1}}, Conflicts: []api.Conflict{{A: 0, B: 1, AB: 2, BA: 1}}},
		Dets:     []api.Det{{Name: "d", Delay: 1}, {Name: "e", Latch: true, Hold: 2}},
		Timers:   []string{"t", "u"},
		Counters: []string{"c", "b"},
		Vars:     []api.Var{{Name: "v", Init: math.MinInt32}, {Name: "w", Init: 17}},
		Stages: []api.TStage{
			{Name: "q", Id: 2, Green: 5, Enter: []api.Stmt{{Kind: api.StSet, Ix: 1, Expr: leaf(api.OpInt, -3)}, {Kind: api.StRun, Ix: 1}, {Kind: api.StCount, Ix: 1}}, Nexts: []api.TNext{{To: 1, When: yes()}, {To: 2, When: yes()}}},
			{Name: "r", Id: 7, During: []api.Stmt{{Kind: api.StIf, Expr: yes()}, {Kind: api.StElse}, {Kind: api.StEnd}}, Nexts: []api.TNext{{To: 2, When: over(api.OpGt, leaf(api.OpElapsed, 0), leaf(api.OpInt, 1))}}},
			{Name: "s", Id: 255, Green: 2, Leave: []api.Stmt{{Kind: api.StClear, Ix: 1}}, Nexts: []api.TNext{{To: 0, When: yes()}}},
		},
		Start: 2,
	}
}

// unsound are plans that check.Sound refuses, each by one thing.
func unsound() []api.Typed {
	list := []api.Typed{{}}
	for _, spoil := range []func(*api.Typed){
		func(x *api.Typed) { x.Name = "" },
		func(x *api.Typed) { x.Timers[1] = "t" },
		func(x *api.Typed) { x.Tables.Groups[1].Min = 0 },
		func(x *api.Typed) { x.Tables.Conflicts[0].B = 3 },
		func(x *api.Typed) { x.Dets[1].Hold = 3601 },
		func(x *api.Typed) { x.Stages, x.Start = nil, 0 },
		func(x *api.Typed) { x.Start = 3 },
		func(x *api.Typed) { x.Start = -1 },
		func(x *api.Typed) { x.Stages[2].Id = 256 },
		func(x *api.Typed) { x.Stages[0].Id = -1 },
		func(x *api.Typed) { x.Stages[1].Id = 2 },
		func(x *api.Typed) { x.Stages[1].Green = 8 },
		func(x *api.Typed) { x.Stages[0].Nexts[0].To = 3 },
		func(x *api.Typed) { x.Stages[0].Nexts[0].To = 0 },
		func(x *api.Typed) { x.Stages[0].Nexts[0].When = nil },
		func(x *api.Typed) { x.Stages[0].Nexts[0].When = leaf(api.OpElapsed, 0) },
		func(x *api.Typed) { x.Stages[0].Nexts[0].When = leaf(api.OpDet, 2) },
		func(x *api.Typed) { x.Stages[0].Nexts[0].When = leaf(api.OpNot, 0) },
		func(x *api.Typed) { x.Stages[0].Enter[0].Expr = nil },
		func(x *api.Typed) { x.Stages[0].Enter[0].Ix = 2 },
		func(x *api.Typed) { x.Stages[0].Enter[1].Ix = -1 },
		func(x *api.Typed) { x.Stages[0].Enter[2].Kind = 11 },
		func(x *api.Typed) { x.Stages[1].During = x.Stages[1].During[:2] },
		func(x *api.Typed) { x.Stages[1].During = x.Stages[1].During[1:] },
		func(x *api.Typed) { x.Stages[2].Leave[0].Ix = 2 },
	} {
		x := things()
		spoil(&x)
		list = append(list, x)
	}
	return list
}

// P8.1: the state at the beginning, also of the least plan, and of one whose start is not its first stage.
func TestNew(t *testing.T) {
	least := api.Typed{Name: "p", Stages: []api.TStage{{Name: "p", Id: 9}}}
	for i, c := range []struct {
		x    api.Typed
		want api.State
	}{
		{things(), api.State{
			Stage: -1, Target: 255,
			Heads:    api.Heads{Aspect: []int{0, 0, 0}, In: []int32{1, 1, 1}, Away: []int32{1, 1, 1}},
			Vars:     []int32{math.MinInt32, 17},
			Timers:   make([]api.Timer, 2),
			Counters: make([]int32, 2),
			Dets:     make([]api.DetState, 2),
		}},
		{least, api.State{Stage: -1, Target: 9}},
		{resolved(t, twoPlan), api.State{Stage: -1, Target: 0, Heads: api.Heads{Aspect: []int{0, 0}, In: []int32{1, 1}, Away: []int32{1, 1}}, Counters: []int32{0}, Dets: make([]api.DetState, 1)}},
	} {
		got := begun(t, c.x).State()
		if !same(got, c.want) {
			t.Errorf("row %d: %+v, want %+v", i, got, c.want)
		}
		if !sim.StateOk(c.x, got) {
			t.Errorf("row %d: it is not of the plan", i)
		}
	}
}

// P8.1, P8.2, P8.6 to P8.8, G5: a plan that is not sound is refused ahead of all else, whatever comes with it.
func TestUnsoundPlans(t *testing.T) {
	fit := begun(t, things()).State()
	for i, x := range unsound() {
		if s, e := sim.New(x); s != nil || e != api.ErrTyped {
			t.Errorf("row %d: New: %v, %d", i, s, e)
		}
		for _, ins := range [][]uint64{nil, {}, {1, 2, 3}} {
			if list, e := sim.Run(x, ins); len(list) != 0 || e != api.ErrTyped {
				t.Errorf("row %d: Run: %v, %d", i, list, e)
			}
		}
		for _, y := range []api.State{fit, {}, {Tick: -1}} {
			if s, e := sim.Resume(x, y); s != nil || e != api.ErrTyped {
				t.Errorf("row %d: Resume: %v, %d", i, s, e)
			}
			if sim.StateOk(x, y) {
				t.Errorf("row %d: StateOk", i)
			}
			for _, e := range [][]api.Node{leaf(api.OpInt, 4), nil} {
				if v, e := sim.Value(x, y, e); v != 0 || e != api.ErrTyped {
					t.Errorf("row %d: Value: %d, %d", i, v, e)
				}
			}
		}
	}
}

// steadyState is a state of things in which stage q is steady, movingState one in a move from it.
func steadyState() api.State {
	return api.State{
		Tick: 40, Stage: 2, Target: -1, Elapsed: 3,
		Heads:    api.Heads{Aspect: []int{api.Green, api.Red, api.Green}, In: []int32{4, 9, 5}, Away: []int32{0, 11, 0}},
		Vars:     []int32{-4, math.MinInt32},
		Timers:   []api.Timer{{Value: 5}, {Value: 0, Running: true}},
		Counters: []int32{0, 9},
		Dets:     []api.DetState{{Run: 0, Left: 1, On: true}, {Run: 3, Mem: true}},
	}
}

func movingState() api.State {
	s := steadyState()
	s.Target = 255
	s.Heads = api.Heads{Aspect: []int{api.Amber, api.Red, api.Lead}, In: []int32{2, 9, 1}, Away: []int32{2, 11, 4}}
	return s
}

// spoilers are changes that make of a state one that is not of things.
func spoilers() map[string][]func(*api.State) {
	return map[string][]func(*api.State){
		"numbers": {
			func(s *api.State) { s.Tick = -1 }, func(s *api.State) { s.Tick = math.MinInt }, func(s *api.State) { s.Elapsed = -1 }, func(s *api.State) { s.Elapsed = math.MinInt32 },
		},
		"stages": {
			func(s *api.State) { s.Stage = 0 }, func(s *api.State) { s.Stage = 1 }, func(s *api.State) { s.Stage = 256 }, func(s *api.State) { s.Stage = -2 }, func(s *api.State) { s.Stage = math.MaxInt },
			func(s *api.State) { s.Target = 0 }, func(s *api.State) { s.Target = 1 }, func(s *api.State) { s.Target = -2 }, func(s *api.State) { s.Target = 2 + 1<<32 },
			func(s *api.State) { s.Stage, s.Target = -1, -1 }, func(s *api.State) { s.Stage, s.Target = 3, 2 }, func(s *api.State) { s.Stage, s.Target = -1, 3 },
		},
		"heads": {
			func(s *api.State) { s.Heads = api.Heads{} }, func(s *api.State) { s.Heads.Aspect = s.Heads.Aspect[:2] }, func(s *api.State) { s.Heads.In = append(s.Heads.In, 1) }, func(s *api.State) { s.Heads.Away = nil },
			func(s *api.State) { s.Heads.In[1] = 0 }, func(s *api.State) { s.Heads.Away[1] = 0 }, func(s *api.State) { s.Heads.Aspect[1] = 4 }, func(s *api.State) { s.Heads.Aspect[1], s.Heads.Away[1] = api.Green, 0 }, func(s *api.State) { s.Heads.Away[1] = -1 },
		},
		"lists": {
			func(s *api.State) { s.Vars = nil }, func(s *api.State) { s.Vars = append(s.Vars, 0) }, func(s *api.State) { s.Vars = s.Vars[:1] },
			func(s *api.State) { s.Timers = nil }, func(s *api.State) { s.Timers = append(s.Timers, api.Timer{}) }, func(s *api.State) { s.Timers = s.Timers[:1] },
			func(s *api.State) { s.Counters = nil }, func(s *api.State) { s.Counters = append(s.Counters, 0) }, func(s *api.State) { s.Counters = s.Counters[:1] },
			func(s *api.State) { s.Dets = nil }, func(s *api.State) { s.Dets = append(s.Dets, api.DetState{}) }, func(s *api.State) { s.Dets = s.Dets[:1] },
		},
		"counts": {
			func(s *api.State) { s.Timers[0].Value = -1 }, func(s *api.State) { s.Timers[1].Value = math.MinInt32 },
			func(s *api.State) { s.Counters[0] = -1 }, func(s *api.State) { s.Counters[1] = math.MinInt32 },
			func(s *api.State) { s.Dets[0].Run = -1 }, func(s *api.State) { s.Dets[1].Run = math.MinInt32 }, func(s *api.State) { s.Dets[0].Left = -1 }, func(s *api.State) { s.Dets[1].Left = -9 },
			func(s *api.State) { s.Dets[0].Mem = true },
		},
		"beginning": {
			func(s *api.State) { s.Tick = 0 },
		},
	}
}

// P8.2, P8.7, P8.8: each thing that a state of the plan must have, broken in a steady state and in a move.
func TestStatesThatAreNotOfThePlan(t *testing.T) {
	x := things()
	for kind, list := range spoilers() {
		for i, spoil := range list {
			for _, y := range []api.State{steadyState(), movingState()} {
				if !sim.StateOk(x, y) {
					t.Fatalf("refused: %+v", y)
				}
				moving := y.Target != -1
				spoil(&y)
				if sim.StateOk(x, y) || modelOk(x, y) {
					t.Errorf("%s, row %d, moving %v: it is let in: %+v", kind, i, moving, y)
				}
				if s, e := sim.Resume(x, y); s != nil || e != api.ErrState {
					t.Errorf("%s, row %d, moving %v: Resume: %v, %d", kind, i, moving, s, e)
				}
				for _, expr := range [][]api.Node{leaf(api.OpInt, 4), nil} {
					if v, e := sim.Value(x, y, expr); v != 0 || e != api.ErrState {
						t.Errorf("%s, row %d, moving %v: Value: %d, %d", kind, i, moving, v, e)
					}
				}
			}
		}
	}
}

// P8.8: what a steady state must have beyond one in a move: heads that are settled for just its stage's Green.
func TestSteadyStates(t *testing.T) {
	x := things()
	heads := func(rows ...[3]int32) api.Heads {
		var h api.Heads
		for _, r := range rows {
			h = api.Heads{Aspect: append(h.Aspect, int(r[0])), In: append(h.In, r[1]), Away: append(h.Away, r[2])}
		}
		return h
	}
	red, green, amber, lead := [3]int32{0, 1, 1}, [3]int32{2, 1, 0}, [3]int32{3, 1, 1}, [3]int32{1, 1, 1}
	for i, c := range []struct {
		h      api.Heads
		stages []int // for which it is steady
	}{
		{heads(green, red, green), []int{2}},
		{heads(green, red, red), nil},
		{heads(red, red, green), nil},
		{heads(red, red, red), []int{7}},
		{heads(red, green, red), []int{255}},
		{heads(red, green, green), nil},
		{heads(amber, red, green), nil},
		{heads(green, red, lead), nil},
		{heads(red, red, amber), nil},
		{heads(lead, red, red), nil},
	} {
		for _, id := range []int{2, 7, 255} {
			y := steadyState()
			y.Stage, y.Heads = id, c.h
			want := len(c.stages) == 1 && c.stages[0] == id
			if got := sim.StateOk(x, y); got != want {
				t.Errorf("row %d, stage %d: %v", i, id, got)
			}
			for _, target := range []int{2, 7, 255} {
				y.Target = target
				if !sim.StateOk(x, y) {
					t.Errorf("row %d, from stage %d to stage %d: refused", i, id, target)
				}
			}
		}
	}
}

// P8.8: states at the edges of what may be, which no run need come to.
func TestEdgesOfStates(t *testing.T) {
	for i, keep := range []func(*api.State){
		func(*api.State) {},
		func(s *api.State) { s.Tick = 1 },
		func(s *api.State) { s.Tick = math.MaxInt },
		func(s *api.State) { s.Elapsed = 0 },
		func(s *api.State) { s.Elapsed = top },
		func(s *api.State) { s.Vars = []int32{math.MinInt32, top} },
		func(s *api.State) { s.Timers = []api.Timer{{Value: top, Running: true}, {}} },
		func(s *api.State) { s.Counters = []int32{top, 0} },
		func(s *api.State) { s.Dets = []api.DetState{{Run: top, Left: top}, {Run: top, Left: top, On: true}} },
		func(s *api.State) { s.Dets[1] = api.DetState{} },
		func(s *api.State) { s.Heads.In = []int32{1, top, 1} },
	} {
		for _, y := range []api.State{steadyState(), movingState()} {
			keep(&y)
			if !sim.StateOk(things(), y) || !modelOk(things(), y) {
				t.Errorf("row %d: refused: %+v", i, y)
			}
		}
	}
	y := movingState()
	for _, c := range [][2]int{{-1, 2}, {-1, 7}, {-1, 255}, {2, 2}, {7, 2}, {255, 255}} {
		y.Stage, y.Target = c[0], c[1]
		if !sim.StateOk(things(), y) {
			t.Errorf("from %d to %d: refused", c[0], c[1])
		}
	}
}

// P8.8: at tick 0 there is one state, in every field.
func TestStateAtTickZero(t *testing.T) {
	x := things()
	if !sim.StateOk(x, begun(t, x).State()) {
		t.Fatal("the state at the beginning is refused")
	}
	for i, c := range []func(*api.State){
		func(s *api.State) { s.Stage = 255 },
		func(s *api.State) { s.Stage = 2 },
		func(s *api.State) { s.Target = 2 },
		func(s *api.State) { s.Target = 7 },
		func(s *api.State) { s.Stage, s.Target = 7, -1 },
		func(s *api.State) { s.Elapsed = 1 },
		func(s *api.State) { s.Heads.In[2] = 2 },
		func(s *api.State) { s.Heads.Away[0] = 2 },
		func(s *api.State) { s.Heads.Aspect[2] = api.Lead },
		func(s *api.State) { s.Heads.Aspect[1], s.Heads.Away[1] = api.Green, 0 },
		func(s *api.State) { s.Vars[0]++ },
		func(s *api.State) { s.Vars[1] = 0 },
		func(s *api.State) { s.Timers[1].Value = 1 },
		func(s *api.State) { s.Timers[0].Running = true },
		func(s *api.State) { s.Counters[1] = 1 },
		func(s *api.State) { s.Dets[0].Run = 1 },
		func(s *api.State) { s.Dets[1].Left = 1 },
		func(s *api.State) { s.Dets[1].On = true },
		func(s *api.State) { s.Dets[1].Mem = true },
	} {
		y := begun(t, x).State()
		c(&y)
		if sim.StateOk(x, y) {
			t.Errorf("row %d: let in at tick 0", i)
		}
		y.Tick = 1
		if !sim.StateOk(x, y) {
			t.Errorf("row %d: refused at tick 1", i)
		}
	}
	// G4: nil and empty lists are the same.
	least := api.Typed{Name: "p", Stages: []api.TStage{{Name: "s"}}}
	for _, y := range []api.State{{Stage: -1}, {Stage: -1, Heads: api.Heads{Aspect: []int{}, In: []int32{}}, Vars: []int32{}, Timers: []api.Timer{}, Counters: []int32{}, Dets: []api.DetState{}}} {
		if !sim.StateOk(least, y) {
			t.Errorf("refused: %#v", y)
		}
	}
}

// P8.2: a Sim goes on from a state that it would not have come to by itself.
func TestResume(t *testing.T) {
	x := things()
	for i, c := range []struct {
		y    api.State
		want string
	}{
		// q is left by its first next, to r; g and i have an amber of 2 ticks.
		{steadyState(), "grg 2, ara -1, ara -1, rrr 7, rrr 7"},
		// g's amber ends, i's lead ends in a green that has to go again.
		{movingState(), "rgg -1, rga -1, rga -1, rgr 255, rrl -1"},
		{begun(t, x).State(), "rrr -1, rrr -1, rgr 255, rgr 255, rrl -1"},
	} {
		s := resumed(t, x, c.y)
		if got := s.State(); !same(got, c.y) {
			t.Errorf("row %d: %+v, want %+v", i, got, c.y)
		}
		var list []api.Entry
		for range 5 {
			list = append(list, s.Tick(0))
		}
		if got := told(list); got != c.want {
			t.Errorf("row %d: %s, want %s", i, got, c.want)
		}
	}
}

// P8.4, G3: a state is new memory: writing into it is not seen, and no tick changes it.
func TestStateIsNew(t *testing.T) {
	x := things()
	s, o := resumed(t, x, steadyState()), resumed(t, x, steadyState())
	for i := range 12 {
		first, second := s.State(), s.State()
		if shares(first, second) {
			t.Fatalf("tick %d: two answers share memory", i)
		}
		kept := copied(first)
		ruin(second)
		if e, f := s.Tick(2), o.Tick(2); e != f {
			t.Errorf("tick %d: %v behind a ruined state, %v else", i, e, f)
		}
		if !same(first, kept) {
			t.Errorf("tick %d: a state has changed: %+v, was %+v", i, first, kept)
		}
		if !same(s.State(), o.State()) {
			t.Errorf("tick %d: %+v, want %+v", i, s.State(), o.State())
		}
	}
}

// P8.2, G3: Resume keeps nothing of the state, and changes nothing of it.
func TestResumeKeepsNothing(t *testing.T) {
	x, y := things(), steadyState()
	s, o := resumed(t, x, y), resumed(t, x, steadyState())
	if shares(y, s.State()) {
		t.Error("State answers what was handed in")
	}
	for i := range 12 {
		if e, f := s.Tick(1), o.Tick(1); e != f || !same(s.State(), o.State()) {
			t.Errorf("tick %d: %v, want %v", i, e, f)
		}
		if i == 0 && !same(y, steadyState()) {
			t.Errorf("a tick changes what was handed in: %+v", y)
		}
		ruin(y)
	}
}

// P8.5: forks go their own ways; so do forks of forks.
func TestFork(t *testing.T) {
	x := resolved(t, twoPlan)
	lone := func(ins ...uint64) (api.Entry, api.State) {
		s := begun(t, x)
		var e api.Entry
		for _, in := range ins {
			e = s.Tick(in)
		}
		return e, s.State()
	}
	first := begun(t, x)
	for range 3 {
		first.Tick(0)
	}
	second := first.Fork()
	if second == first || !same(second.State(), first.State()) || shares(first.State(), second.State()) {
		t.Fatalf("%+v, %+v", first.State(), second.State())
	}
	third := second.Fork()
	inputs := map[*sim.Sim][]uint64{first: {0, 0, 0}, second: {0, 0, 0}, third: {0, 0, 0}}
	for i := range 30 {
		// One is pushed at times, one always, one never; they take turns.
		for s, in := range map[*sim.Sim]uint64{first: uint64(i / 7 % 2), second: 1, third: 0} {
			inputs[s] = append(inputs[s], in)
			got := s.Tick(in)
			want, state := lone(inputs[s]...)
			if got != want || !same(s.State(), state) {
				t.Fatalf("%v: %v, %+v, want %v, %+v", inputs[s], got, s.State(), want, state)
			}
		}
	}
	// A fork's state is that of its fork's tick, whatever has become of the first.
	before := first.State()
	fork := first.Fork()
	for range 9 {
		first.Tick(1)
	}
	if !same(fork.State(), before) {
		t.Errorf("%+v, want %+v", fork.State(), before)
	}
}

// P8.6: Run is New and Tick in turn; of no inputs it is nothing.
func TestRun(t *testing.T) {
	for _, text := range []string{twoPlan, smallPlan} {
		x := resolved(t, text)
		for _, count := range []int{0, 1, 2, 80} {
			ins := make([]uint64, count)
			for i := range ins {
				ins[i] = uint64(i * i % 4)
			}
			s := begun(t, x)
			var want []api.Entry
			for _, in := range ins {
				want = append(want, s.Tick(in))
			}
			list, e := sim.Run(x, ins)
			if e != api.OK || told(list) != told(want) {
				t.Errorf("%d: %s, %d, want %s", count, told(list), e, told(want))
			}
		}
		for _, ins := range [][]uint64{nil, {}} {
			if list, e := sim.Run(x, ins); len(list) != 0 || e != api.OK {
				t.Errorf("no inputs: %v, %d", list, e)
			}
		}
	}
}
