package sim

import (
	"slices"

	"junction/api"
)

// script is a plan made ready to be played: nothing in it is looked for at a tick.
type script struct {
	tables api.Tables
	dets   []api.Det
	stages map[int]stage // by their Ids
}

// stage is one whose lists and nexts are made ready.
type stage struct {
	green  uint64
	enter  block
	during block
	leave  block
	nexts  []next
}

// next is a way out of a stage.
type next struct {
	to   int // an Id
	when value
}

// scriptOf shares no memory with the plan, which must be sound.
func scriptOf(t api.Typed) script {
	p := script{
		tables: api.Tables{Groups: slices.Clone(t.Tables.Groups), Conflicts: slices.Clone(t.Tables.Conflicts)},
		dets:   slices.Clone(t.Dets),
		stages: make(map[int]stage, len(t.Stages)),
	}
	for _, s := range t.Stages {
		p.stages[s.Id] = stage{
			green:  s.Green,
			enter:  blockOf(p.dets, s.Enter),
			during: blockOf(p.dets, s.During),
			leave:  blockOf(p.dets, s.Leave),
			nexts:  nextsOf(t, s),
		}
	}
	return p
}

// nextsOf are a stage's ways out: a plan names stages by their places, a state by their Ids.
func nextsOf(t api.Typed, s api.TStage) []next {
	list := make([]next, len(s.Nexts))
	for i, n := range s.Nexts {
		list[i] = next{to: t.Stages[n.To].Id, when: valueOf(t.Dets, n.When)}
	}
	return list
}
