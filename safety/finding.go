package safety

import "junction/api"

// MaxFindings is how many findings are told of a plan at most.
const MaxFindings = 64

// none stands in the fields of a finding that it does not need.
const none = -1

// need is what a sort of group needs: the least Min and Amber, the most Lead.
type need struct{ min, amber, lead int }

var needs = [3]need{api.Vehicle: {min: 5, amber: 3, lead: 3}, api.Pedestrian: {min: 4}}

// report is what has been found in a plan so far.
type report struct {
	plan
	found []api.Finding
}

func (r *report) tell(code api.Errno, stage, a, b int) {
	if len(r.found) < MaxFindings {
		r.found = append(r.found, api.Finding{Code: code, Stage: stage, A: a, B: b})
	}
}

func (r *report) lengths() {
	for i, g := range r.groups {
		sort := needs[g.Sort]
		if g.Min < sort.min {
			r.tell(api.ErrMin, none, i, none)
		}
		if g.Amber < sort.amber {
			r.tell(api.ErrAmber, none, i, none)
		}
		if g.Lead > sort.lead {
			r.tell(api.ErrLead, none, i, none)
		}
	}
}

func (r *report) intergreens() {
	for _, p := range r.shorts() {
		r.tell(api.ErrShort, none, p[0], p[1])
	}
}

func (r *report) stageClashes() {
	for i, s := range r.Stages {
		for _, c := range r.Tables.Conflicts {
			if has(s.Green, c.A) && has(s.Green, c.B) {
				r.tell(api.ErrClash, i, c.A, c.B)
			}
		}
	}
}

func (r *report) traps() {
	for i, s := range r.Stages {
		if r.reached[i] && len(s.Nexts) == 0 {
			r.tell(api.ErrTrap, i, none, none)
		}
	}
}

func (r *report) unused() {
	var used uint64
	for i, s := range r.Stages {
		if r.reached[i] {
			used |= s.Green
		}
	}
	for i := range r.groups {
		if !has(used, i) {
			r.tell(api.ErrNever, none, i, none)
		}
	}
}

// slowness passes over the moves of stages that clash: the heads would never come through those.
func (r *report) slowness() {
	for _, m := range r.moves() {
		if !r.clashes(m) && r.longest(m) > api.MaxMove {
			r.tell(api.ErrSlow, m.from, none, m.to)
		}
	}
}
