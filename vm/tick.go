package vm

import (
	"junction/api"
	"junction/arith"
	"junction/heads"
)

// steady tells whether no move is under way.
func (v *Machine) steady() bool { return v.now.Target == none }

// want is the mask that the heads are to show.
func (v *Machine) want() uint64 {
	if v.steady() {
		return v.image.slots[v.now.Stage].Green
	}
	return v.image.slots[v.now.Target].Green
}

// sense lets the detectors see their bits, and the timers go on.
func (v *Machine) sense(in uint64) {
	for i, d := range v.image.dets {
		v.now.Dets[i] = arith.Sense(d, v.now.Dets[i], in>>i&1 == 1)
	}
	for i, t := range v.now.Timers {
		v.now.Timers[i] = arith.StepTimer(t)
	}
}

// show lets the heads go on, and the slot that a move goes to arrive where they show it. At tick 0 they show what they began with.
func (v *Machine) show() {
	want := v.want()
	if v.now.Tick > 0 {
		v.now.Heads, _ = heads.Step(v.image.tables, v.now.Heads, want)
	}
	switch {
	case v.steady():
		v.now.Elapsed = arith.Up(v.now.Elapsed)
	case v.now.Tick > 0 && heads.Settled(v.image.tables, v.now.Heads, want):
		v.arrive()
	}
}

func (v *Machine) arrive() {
	v.now.Stage, v.now.Target, v.now.Elapsed = v.now.Target, none, 0
	v.run(v.image.slots[v.now.Stage].Enter)
}

// entry is what the tick shows. It is taken ahead of what may leave the slot: in that tick the slot is still told.
func (v *Machine) entry() api.Entry {
	stage := none
	if v.steady() {
		stage = v.now.Stage
	}
	return api.Entry{Heads: heads.Show(v.now.Heads), Stage: stage}
}

// follow does what a steady slot does in a tick. It is not left while a green is younger than its minimum.
func (v *Machine) follow() {
	here := v.image.slots[v.now.Stage]
	to := v.run(here.Tick)
	if to != none && heads.Gate(v.image.tables, v.now.Heads, v.image.slots[to].Green) {
		v.run(here.Leave)
		v.now.Target = to
	}
}
