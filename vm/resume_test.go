package vm_test

import (
	"math/rand"
	"testing"

	"junction/api"
	"junction/vm"
)

// steadyState is a state of things in which slot 2 is steady, movingState one in a move from it.
func steadyState() api.State {
	return api.State{
		Tick: 40, Stage: 2, Target: -1, Elapsed: 3,
		Heads:    api.Heads{Aspect: []int{api.Green, api.Red, api.Green}, In: []int32{4, 9, 5}, Away: []int32{0, 11, 0}},
		Vars:     []int32{-4, least},
		Timers:   []api.Timer{{Value: 5}, {Value: 0, Running: true}},
		Counters: []int32{0, 9},
		Dets:     []api.DetState{{Run: 0, Left: 1, On: true}, {Run: 3, Mem: true}},
	}
}

func movingState() api.State {
	s := steadyState()
	s.Target = 255
	s.Heads = api.Heads{Aspect: []int{api.Amber, api.Red, api.Lead}, In: []int32{2, 9, 1}, Away: []int32{2, 11, 4}}
	return s
}

// isIn tells whether Resume takes a state, and asks that a refusal is as it must be.
func isIn(t *testing.T, m api.Image, s api.State) bool {
	t.Helper()
	v, f := vm.Resume(m, s)
	if (v == nil) != (f != api.Fault{}) || v == nil && f != (api.Fault{Code: api.ErrState}) {
		t.Errorf("Resume: %v, %v of %+v", v, f, s)
	}
	return v != nil
}

// P13.2: each thing that a state of the image must have, broken in a steady state and in a move.
func TestStatesThatAreNotOfTheImage(t *testing.T) {
	t.Parallel()
	for kind, list := range map[string][]func(*api.State){
		"numbers": {
			func(s *api.State) { s.Tick = -1 }, func(s *api.State) { s.Tick = -1 << 63 }, func(s *api.State) { s.Elapsed = -1 }, func(s *api.State) { s.Elapsed = least },
		},
		"slots": {
			func(s *api.State) { s.Stage = 0 }, func(s *api.State) { s.Stage = 1 }, func(s *api.State) { s.Stage = 256 }, func(s *api.State) { s.Stage = -2 }, func(s *api.State) { s.Stage = last },
			func(s *api.State) { s.Target = 0 }, func(s *api.State) { s.Target = 1 }, func(s *api.State) { s.Target = -2 }, func(s *api.State) { s.Target = 2 + 1<<32 },
			func(s *api.State) { s.Stage, s.Target = -1, -1 }, func(s *api.State) { s.Stage, s.Target = 3, 2 }, func(s *api.State) { s.Stage, s.Target = -1, 3 },
		},
		"heads": {
			func(s *api.State) { s.Heads = api.Heads{} }, func(s *api.State) { s.Heads.Aspect = s.Heads.Aspect[:2] }, func(s *api.State) { s.Heads.In = append(s.Heads.In, 1) }, func(s *api.State) { s.Heads.Away = nil },
			func(s *api.State) { s.Heads.In[1] = 0 }, func(s *api.State) { s.Heads.Away[1] = 0 }, func(s *api.State) { s.Heads.Aspect[1] = 4 }, func(s *api.State) { s.Heads.Aspect[1], s.Heads.Away[1] = api.Green, 0 }, func(s *api.State) { s.Heads.Away[1] = -1 },
		},
		"lists": {
			func(s *api.State) { s.Vars = nil }, func(s *api.State) { s.Vars = append(s.Vars, 0) }, func(s *api.State) { s.Vars = s.Vars[:1] },
			func(s *api.State) { s.Timers = nil }, func(s *api.State) { s.Timers = append(s.Timers, api.Timer{}) }, func(s *api.State) { s.Timers = s.Timers[:1] },
			func(s *api.State) { s.Counters = nil }, func(s *api.State) { s.Counters = append(s.Counters, 0) }, func(s *api.State) { s.Counters = s.Counters[:1] },
			func(s *api.State) { s.Dets = nil }, func(s *api.State) { s.Dets = append(s.Dets, api.DetState{}) }, func(s *api.State) { s.Dets = s.Dets[:1] },
		},
		"counts": {
			func(s *api.State) { s.Timers[0].Value = -1 }, func(s *api.State) { s.Timers[1].Value = least },
			func(s *api.State) { s.Counters[0] = -1 }, func(s *api.State) { s.Counters[1] = least },
			func(s *api.State) { s.Dets[0].Run = -1 }, func(s *api.State) { s.Dets[1].Run = least }, func(s *api.State) { s.Dets[0].Left = -1 }, func(s *api.State) { s.Dets[1].Left = -9 },
			func(s *api.State) { s.Dets[0].Mem = true },
		},
		"beginning": {
			func(s *api.State) { s.Tick = 0 },
		},
	} {
		for i, spoil := range list {
			for _, s := range []api.State{steadyState(), movingState()} {
				if !isIn(t, things(), s) {
					t.Fatalf("refused: %+v", s)
				}
				moving := s.Target != -1
				spoil(&s)
				if isIn(t, things(), s) || modelOk(things(), s) {
					t.Errorf("%s, row %d, moving %v: it is let in: %+v", kind, i, moving, s)
				}
			}
		}
	}
}

// P13.2: what a steady state must have beyond one in a move: heads that are settled for just its slot's Green.
func TestSteadyStates(t *testing.T) {
	t.Parallel()
	heads := func(rows ...[3]int32) api.Heads {
		var h api.Heads
		for _, r := range rows {
			h = api.Heads{Aspect: append(h.Aspect, int(r[0])), In: append(h.In, r[1]), Away: append(h.Away, r[2])}
		}
		return h
	}
	red, green, amber, lead := [3]int32{0, 1, 1}, [3]int32{2, 1, 0}, [3]int32{3, 1, 1}, [3]int32{1, 1, 1}
	for i, c := range []struct {
		h    api.Heads
		slot int // for which it is steady; -1: for none
	}{
		{heads(green, red, green), 2},
		{heads(green, red, red), -1},
		{heads(red, red, green), -1},
		{heads(red, red, red), 7},
		{heads(red, green, red), 255},
		{heads(red, green, green), -1},
		{heads(amber, red, green), -1},
		{heads(green, red, lead), -1},
		{heads(red, red, amber), -1},
		{heads(lead, red, red), -1},
	} {
		for _, id := range []int{2, 7, 255} {
			s := steadyState()
			s.Stage, s.Heads = id, c.h
			if got := isIn(t, things(), s); got != (c.slot == id) {
				t.Errorf("row %d, slot %d: %v", i, id, got)
			}
			for _, target := range []int{2, 7, 255} {
				s.Target = target
				if !isIn(t, things(), s) {
					t.Errorf("row %d, from slot %d to slot %d: refused", i, id, target)
				}
			}
		}
	}
}

// P13.2: states at the edges of what may be, which no run need come to.
func TestEdgesOfStates(t *testing.T) {
	t.Parallel()
	for i, keep := range []func(*api.State){
		func(*api.State) {},
		func(s *api.State) { s.Tick = 1 },
		func(s *api.State) { s.Tick = last },
		func(s *api.State) { s.Elapsed = 0 },
		func(s *api.State) { s.Elapsed = most },
		func(s *api.State) { s.Vars = []int32{least, most} },
		func(s *api.State) { s.Timers = []api.Timer{{Value: most, Running: true}, {}} },
		func(s *api.State) { s.Counters = []int32{most, 0} },
		func(s *api.State) {
			s.Dets = []api.DetState{{Run: most, Left: most}, {Run: most, Left: most, On: true}}
		},
		func(s *api.State) { s.Dets[1] = api.DetState{} },
		func(s *api.State) { s.Heads.In = []int32{1, most, 1} },
	} {
		for _, s := range []api.State{steadyState(), movingState()} {
			keep(&s)
			if !isIn(t, things(), s) || !modelOk(things(), s) {
				t.Errorf("row %d: refused: %+v", i, s)
			}
		}
	}
	s := movingState()
	for _, c := range [][2]int{{-1, 2}, {-1, 7}, {-1, 255}, {2, 2}, {7, 2}, {255, 255}} {
		s.Stage, s.Target = c[0], c[1]
		if !isIn(t, things(), s) {
			t.Errorf("from %d to %d: refused", c[0], c[1])
		}
	}
}

// P13.2: at tick 0 there is one state, in every field.
func TestStateAtTickZero(t *testing.T) {
	t.Parallel()
	if !isIn(t, things(), begun(t, things()).State()) {
		t.Fatal("the state at the beginning is refused")
	}
	for i, turn := range []func(*api.State){
		func(s *api.State) { s.Stage = 255 },
		func(s *api.State) { s.Stage = 2 },
		func(s *api.State) { s.Target = 2 },
		func(s *api.State) { s.Target = 7 },
		func(s *api.State) { s.Stage, s.Target = 7, -1 },
		func(s *api.State) { s.Elapsed = 1 },
		func(s *api.State) { s.Heads.In[2] = 2 },
		func(s *api.State) { s.Heads.Away[0] = 2 },
		func(s *api.State) { s.Heads.Aspect[2] = api.Lead },
		func(s *api.State) { s.Heads.Aspect[1], s.Heads.Away[1] = api.Green, 0 },
		func(s *api.State) { s.Vars[0]++ },
		func(s *api.State) { s.Vars[1] = 0 },
		func(s *api.State) { s.Timers[1].Value = 1 },
		func(s *api.State) { s.Timers[0].Running = true },
		func(s *api.State) { s.Counters[1] = 1 },
		func(s *api.State) { s.Dets[0].Run = 1 },
		func(s *api.State) { s.Dets[1].Left = 1 },
		func(s *api.State) { s.Dets[1].On = true },
		func(s *api.State) { s.Dets[1].Mem = true },
	} {
		s := begun(t, things()).State()
		turn(&s)
		if isIn(t, things(), s) {
			t.Errorf("row %d: let in at tick 0", i)
		}
		s.Tick = 1
		if !isIn(t, things(), s) {
			t.Errorf("row %d: refused at tick 1", i)
		}
	}
	// G4: nil and empty lists are the same.
	for _, s := range []api.State{{Stage: -1}, {Stage: -1, Heads: api.Heads{Aspect: []int{}, In: []int32{}}, Vars: []int32{}, Timers: []api.Timer{}, Counters: []int32{}, Dets: []api.DetState{}}} {
		if !isIn(t, leastImage(), s) {
			t.Errorf("refused: %#v", s)
		}
	}
}

// P13.2, P13.5: a machine goes on from a state that it would not have come to by itself; it has run nothing yet.
func TestResume(t *testing.T) {
	t.Parallel()
	for i, c := range []struct {
		s    api.State
		want string
	}{
		// Slot 2 is left by its first pick, for slot 7; g and i have an amber of 2 ticks.
		{steadyState(), "grg 2, ara -1, ara -1, rrr 7, rrr 7"},
		// g's amber ends, i's lead ends in a green that has to go again.
		{movingState(), "rgg -1, rga -1, rga -1, rgr 255, rrl -1"},
		{begun(t, things()).State(), "rrr -1, rrr -1, rgr 255, rgr 255, rrl -1"},
	} {
		v := resumed(t, things(), c.s)
		if got := v.State(); !same(got, c.s) || v.Steps() != 0 || v.High() != 0 {
			t.Errorf("row %d: %+v, %d steps, %d high, want %+v", i, got, v.Steps(), v.High(), c.s)
		}
		var list []api.Entry
		for range 5 {
			list = append(list, v.Tick(0))
		}
		if got := told(list); got != c.want {
			t.Errorf("row %d: %s, want %s", i, got, c.want)
		}
	}
}

// P13.2: states with one thing changed, at random, against the second way.
func TestStatesAtRandom(t *testing.T) {
	t.Parallel()
	r := rand.New(rand.NewSource(132))
	seen := map[bool]int{}
	for range 600 {
		m := anyWild(r)
		s := pick(r, anyState(r, m), modelStart(m))
		for range 16 {
			z := spoilt(r, s)
			got := isIn(t, m, z)
			if got != modelOk(m, z) {
				t.Fatalf("%v: %+v, was %+v in %s", got, z, s, listed(m))
			}
			seen[got]++
		}
	}
	if min(seen[true], seen[false]) < 2000 {
		t.Errorf("%v", seen)
	}
}
