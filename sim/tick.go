package sim

import (
	"math"

	"junction/api"
	"junction/arith"
	"junction/heads"
)

// steady tells whether no move is under way.
func (s *Sim) steady() bool { return s.now.Target == none }

// want is the mask that the heads are to show.
func (s *Sim) want() uint64 {
	if s.steady() {
		return s.plan.stages[s.now.Stage].green
	}
	return s.plan.stages[s.now.Target].green
}

// count lets the detectors sense their bits, and the timers go on.
func (s *Sim) count(in uint64) {
	for i, d := range s.plan.dets {
		s.now.Dets[i] = arith.Sense(d, s.now.Dets[i], in>>i&1 == 1)
	}
	for i, t := range s.now.Timers {
		s.now.Timers[i] = arith.StepTimer(t)
	}
}

// show lets the heads go on, and the stage that a move goes to arrive where they show it. At tick 0 they show what they began with.
func (s *Sim) show() {
	want := s.want()
	if s.now.Tick > 0 {
		s.now.Heads, _ = heads.Step(s.plan.tables, s.now.Heads, want)
	}
	switch {
	case s.steady():
		s.now.Elapsed = arith.Up(s.now.Elapsed)
	case s.now.Tick > 0 && heads.Settled(s.plan.tables, s.now.Heads, want):
		s.arrive()
	}
}

func (s *Sim) arrive() {
	s.now.Stage, s.now.Target, s.now.Elapsed = s.now.Target, none, 0
	s.plan.stages[s.now.Stage].enter.run(&s.now)
}

// entry is what the tick shows. It is taken ahead of what may leave the stage: in that tick the stage is still told.
func (s *Sim) entry() api.Entry {
	stage := none
	if s.steady() {
		stage = s.now.Stage
	}
	return api.Entry{Heads: heads.Show(s.now.Heads), Stage: stage}
}

// follow does what a steady stage does in a tick.
func (s *Sim) follow() {
	here := s.plan.stages[s.now.Stage]
	here.during.run(&s.now)
	for _, n := range here.nexts {
		if n.when(&s.now) == 1 {
			s.quit(here, n.to)
			return
		}
	}
}

// quit leaves a stage for another one, unless a green is younger than its minimum.
func (s *Sim) quit(here stage, to int) {
	if heads.Gate(s.plan.tables, s.now.Heads, s.plan.stages[to].green) {
		here.leave.run(&s.now)
		s.now.Target = to
	}
}

// later is the tick behind that one.
func later(tick int) int {
	if tick < math.MaxInt {
		tick++
	}
	return tick
}
