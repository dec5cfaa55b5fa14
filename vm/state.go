package vm

import (
	"slices"

	"junction/api"
	"junction/heads"
)

// none stands where there is no slot.
const none = -1

// beginning is the state of a verified image ahead of tick 0.
func beginning(m api.Image) api.State {
	dark, _ := heads.Start(m.Tables)
	return api.State{
		Stage:    none,
		Target:   m.Slots[m.Start].Id,
		Heads:    dark,
		Vars:     slices.Clone(m.Vars),
		Timers:   make([]api.Timer, m.Timers),
		Counters: make([]int32, m.Counters),
		Dets:     make([]api.DetState, len(m.Dets)),
	}
}

// copied is the state in new memory.
func copied(s api.State) api.State {
	s.Heads = api.Heads{Aspect: slices.Clone(s.Heads.Aspect), In: slices.Clone(s.Heads.In), Away: slices.Clone(s.Heads.Away)}
	s.Vars = slices.Clone(s.Vars)
	s.Timers = slices.Clone(s.Timers)
	s.Counters = slices.Clone(s.Counters)
	s.Dets = slices.Clone(s.Dets)
	return s
}

// isOf tells whether a state is of an image, whose program p is.
func isOf(m api.Image, p program, s api.State) bool {
	if !isPlaced(p, s) || !isCounted(m, s) {
		return false
	}
	// A machine has come to tick 0 by nothing, so there is one state to be in.
	return s.Tick > 0 || same(s, beginning(m))
}

// isPlaced looks at the slots of a state and at its heads.
func isPlaced(p program, s api.State) bool {
	slot, known := p.slots[s.Stage]
	if s.Target == none {
		return known && heads.Settled(p.tables, s.Heads, slot.Green)
	}
	_, going := p.slots[s.Target]
	return going && (known || s.Stage == none) && heads.Sound(p.tables, s.Heads)
}

// isCounted looks at all that a state counts.
func isCounted(m api.Image, s api.State) bool {
	if s.Tick < 0 || s.Elapsed < 0 {
		return false
	}
	if len(s.Vars) != len(m.Vars) || len(s.Timers) != m.Timers || len(s.Counters) != m.Counters || len(s.Dets) != len(m.Dets) {
		return false
	}
	for i, d := range s.Dets {
		if d.Run < 0 || d.Left < 0 || d.Mem && !m.Dets[i].Latch {
			return false
		}
	}
	below := func(n int32) bool { return n < 0 }
	return !slices.ContainsFunc(s.Counters, below) && !slices.ContainsFunc(s.Timers, func(t api.Timer) bool { return below(t.Value) })
}

// same takes nil and empty lists as equal.
func same(s, o api.State) bool {
	return s.Tick == o.Tick && s.Stage == o.Stage && s.Target == o.Target && s.Elapsed == o.Elapsed &&
		slices.Equal(s.Heads.Aspect, o.Heads.Aspect) && slices.Equal(s.Heads.In, o.Heads.In) && slices.Equal(s.Heads.Away, o.Heads.Away) &&
		slices.Equal(s.Vars, o.Vars) && slices.Equal(s.Timers, o.Timers) && slices.Equal(s.Counters, o.Counters) && slices.Equal(s.Dets, o.Dets)
}
