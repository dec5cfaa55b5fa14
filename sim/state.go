package sim

import (
	"slices"

	"junction/api"
	"junction/check"
	"junction/heads"
)

// none stands where a state has no stage.
const none = -1

// beginning is the state of a sound plan ahead of tick 0.
func beginning(t api.Typed) api.State {
	dark, _ := heads.Start(t.Tables)
	s := api.State{
		Stage:    none,
		Target:   t.Stages[t.Start].Id,
		Heads:    dark,
		Vars:     make([]int32, len(t.Vars)),
		Timers:   make([]api.Timer, len(t.Timers)),
		Counters: make([]int32, len(t.Counters)),
		Dets:     make([]api.DetState, len(t.Dets)),
	}
	for i, v := range t.Vars {
		s.Vars[i] = v.Init
	}
	return s
}

// copied is the state in new memory.
func copied(s api.State) api.State {
	s.Heads = api.Heads{Aspect: slices.Clone(s.Heads.Aspect), In: slices.Clone(s.Heads.In), Away: slices.Clone(s.Heads.Away)}
	s.Vars = slices.Clone(s.Vars)
	s.Timers = slices.Clone(s.Timers)
	s.Counters = slices.Clone(s.Counters)
	s.Dets = slices.Clone(s.Dets)
	return s
}

// refusal is why nothing can be played or asked in that state; OK, if it can.
func refusal(t api.Typed, s api.State) api.Errno {
	if !check.Sound(t) {
		return api.ErrTyped
	}
	if !isPlaced(t, s) || !isCounted(t, s) {
		return api.ErrState
	}
	// A plan has come to tick 0 by nothing, so there is one state to be in.
	if s.Tick == 0 && !same(s, beginning(t)) {
		return api.ErrState
	}
	return api.OK
}

// isPlaced looks at the stages of a state and at its heads.
func isPlaced(t api.Typed, s api.State) bool {
	stage, known := stageOf(t, s.Stage)
	if s.Target == none {
		return known && heads.Settled(t.Tables, s.Heads, stage.Green)
	}
	_, going := stageOf(t, s.Target)
	return going && (known || s.Stage == none) && heads.Sound(t.Tables, s.Heads)
}

// stageOf is the stage of that Id.
func stageOf(t api.Typed, id int) (api.TStage, bool) {
	at := slices.IndexFunc(t.Stages, func(s api.TStage) bool { return s.Id == id })
	if at < 0 {
		return api.TStage{}, false
	}
	return t.Stages[at], true
}

// isCounted looks at all that a state counts.
func isCounted(t api.Typed, s api.State) bool {
	if s.Tick < 0 || s.Elapsed < 0 {
		return false
	}
	if len(s.Vars) != len(t.Vars) || len(s.Timers) != len(t.Timers) || len(s.Counters) != len(t.Counters) || len(s.Dets) != len(t.Dets) {
		return false
	}
	for i, d := range s.Dets {
		if d.Run < 0 || d.Left < 0 || d.Mem && !t.Dets[i].Latch {
			return false
		}
	}
	below := func(n int32) bool { return n < 0 }
	return !slices.ContainsFunc(s.Counters, below) && !slices.ContainsFunc(s.Timers, func(t api.Timer) bool { return below(t.Value) })
}

// same takes nil and empty lists as equal.
func same(s, o api.State) bool {
	return s.Tick == o.Tick && s.Stage == o.Stage && s.Target == o.Target && s.Elapsed == o.Elapsed &&
		slices.Equal(s.Heads.Aspect, o.Heads.Aspect) && slices.Equal(s.Heads.In, o.Heads.In) && slices.Equal(s.Heads.Away, o.Heads.Away) &&
		slices.Equal(s.Vars, o.Vars) && slices.Equal(s.Timers, o.Timers) && slices.Equal(s.Counters, o.Counters) && slices.Equal(s.Dets, o.Dets)
}
