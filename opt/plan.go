package opt

import (
	"slices"

	"junction/api"
)

// works is a sound plan that becomes smaller round by round.
type works struct {
	plan   api.Typed
	todo   worklist[int]      // places of stages
	looked map[int]api.TStage // of this round: what has become of the stages, by their places; a next still names its stage's old place
}

func newWorks(t api.Typed) *works {
	t.Tables = api.Tables{Groups: slices.Clone(t.Tables.Groups), Conflicts: slices.Clone(t.Tables.Conflicts)}
	t.Dets = slices.Clone(t.Dets)
	t.Timers = slices.Clone(t.Timers)
	t.Counters = slices.Clone(t.Counters)
	t.Vars = slices.Clone(t.Vars)
	return &works{plan: t, looked: make(map[int]api.TStage, len(t.Stages))}
}

// round tells whether it has changed anything. It looks at the stages from the start on, each once it is found that a smaller one's next goes to it: what is not looked at is not reached.
func (w *works) round() bool {
	clear(w.looked)
	k := unset(w.plan)
	w.todo.put(w.plan.Start)
	for place := range w.todo.all {
		if _, done := w.looked[place]; done {
			continue
		}
		s := smallerStage(w.plan.Stages[place], k)
		w.looked[place] = s
		for _, n := range s.Nexts {
			w.todo.put(n.To)
		}
	}
	return w.take()
}

// take puts the stages that were looked at into the plan.
func (w *works) take() bool {
	var stages []api.TStage
	places := make([]int, len(w.plan.Stages))
	for old := range places {
		if s, ok := w.looked[old]; ok {
			places[old] = len(stages)
			stages = append(stages, s)
		}
	}
	for _, s := range stages {
		for i := range s.Nexts {
			s.Nexts[i].To = places[s.Nexts[i].To]
		}
	}
	changed := !slices.EqualFunc(stages, w.plan.Stages, sameStages)
	w.plan.Stages, w.plan.Start = stages, places[w.plan.Start]
	return changed
}

// unset is what is known all over a plan: the variables that nothing sets.
func unset(t api.Typed) api.Known {
	var k api.Known
	for v, row := range t.Vars {
		learn(&k, v, row.Init)
	}
	for _, s := range t.Stages {
		for _, list := range [...][]api.Stmt{s.Enter, s.During, s.Leave} {
			for _, w := range list {
				if w.Kind == api.StSet {
					forget(&k, w.Ix)
				}
			}
		}
	}
	return k
}

// smallerStage makes a stage anew, with what is known all over the plan.
func smallerStage(s api.TStage, k api.Known) api.TStage {
	k.Steady, k.Green = true, s.Green
	entering := k
	s.Enter = body(s.Enter, &entering)
	s.During = body(s.During, &k)
	s.Nexts = smallerNexts(s.Nexts, &k)
	if len(s.Nexts) == 0 {
		s.Leave = nil
	} else {
		s.Leave = body(s.Leave, &k)
	}
	return s
}

// smallerNexts are those that can be picked.
func smallerNexts(list []api.TNext, k *api.Known) []api.TNext {
	var out []api.TNext
	// There may be thousands of nexts: each is looked up among those that stay, not held against each of them.
	stay := make(map[string]struct{}, len(list))
	for _, n := range list {
		when := fold(n.When, k)
		nodes := when.nodes()
		key := keyOf(nodes)
		if _, again := stay[key]; again || when.isKnown(0) {
			continue
		}
		stay[key] = struct{}{}
		out = append(out, api.TNext{To: n.To, When: nodes})
		if when.isKnown(1) {
			break
		}
	}
	return out
}

// keyOf is a text that sound expressions have in common just if they are equal.
func keyOf(e []api.Node) string {
	var key []byte
	for _, n := range e {
		w := uint32(n.Val)
		key = append(key, byte(n.Op), byte(w>>24), byte(w>>16), byte(w>>8), byte(w))
	}
	return string(key)
}

// sameStages is of a stage and what has become of it.
func sameStages(a, b api.TStage) bool {
	return sameBodies(a.Enter, b.Enter) && sameBodies(a.During, b.During) && sameBodies(a.Leave, b.Leave) &&
		slices.EqualFunc(a.Nexts, b.Nexts, sameNexts)
}

func sameNexts(a, b api.TNext) bool { return a.To == b.To && slices.Equal(a.When, b.When) }
