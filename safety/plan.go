package safety

import "junction/api"

// plan is a sound typed plan with what is asked of it for each of its moves, which may be thousands.
type plan struct {
	api.Typed
	street
	reached  []bool // of each stage
	clashing []bool // of each stage: whether its Green clashes
	waits    []int  // of each group, whatever was green before
}

func planOf(t api.Typed) plan {
	s := streetOf(t.Tables)
	return plan{Typed: t, street: s, reached: reached(t), clashing: clashing(t), waits: s.waitsFor(allOf(s.groups))}
}

// reached asks whatever the nexts' expressions are: one that is never true counts too.
func reached(t api.Typed) []bool {
	seen := make([]bool, len(t.Stages))
	seen[t.Start] = true
	for work := []int{t.Start}; len(work) > 0; {
		last := len(work) - 1
		stage := t.Stages[work[last]]
		work = work[:last]
		for _, n := range stage.Nexts {
			if !seen[n.To] {
				seen[n.To] = true
				work = append(work, n.To)
			}
		}
	}
	return seen
}

func clashing(t api.Typed) []bool {
	list := make([]bool, len(t.Stages))
	for i, s := range t.Stages {
		_, _, list[i] = Clash(t.Tables, s.Green)
	}
	return list
}

// move goes from the place of one stage to that of another; from none at the start.
type move struct{ from, to int }

// moves are all that a plan can make: the start's, then those of the nexts of the reached stages.
func (p plan) moves() []move {
	list := []move{{none, p.Start}}
	for i, s := range p.Stages {
		if !p.reached[i] {
			continue
		}
		for _, n := range s.Nexts {
			list = append(list, move{i, n.To})
		}
	}
	return list
}

func (p plan) clashes(m move) bool {
	return m.from != none && p.clashing[m.from] || p.clashing[m.to]
}

func (p plan) longest(m move) int {
	var from uint64
	if m.from != none {
		from = p.Stages[m.from].Green
	}
	return p.through(from, p.Stages[m.to].Green, p.waits)
}
