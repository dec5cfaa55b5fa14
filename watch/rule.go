package watch

import (
	"cmp"
	"slices"

	"junction/api"
)

// none stands in an alarm for a group that its kind does not need.
const none = -1

// group is a signal group and its times.
type group struct {
	number, min, amber, lead int
}

// rules are what sound tables ask of the letters.
type rules struct {
	groups    []group
	conflicts []api.Conflict
}

// rulesOf shares no memory with the tables.
func rulesOf(t api.Tables) rules {
	r := rules{groups: make([]group, len(t.Groups)), conflicts: slices.Clone(t.Conflicts)}
	for i, g := range t.Groups {
		r.groups[i] = group{number: i, min: g.Min, amber: g.Amber, lead: g.Lead}
	}
	return r
}

// misformed is the alarm of a text that is not formed, else the zero one.
func (r rules) misformed(tick int, heads string) api.Alarm {
	if len(heads) != len(r.groups) {
		return api.Alarm{Kind: api.AlForm, Tick: tick, A: none, B: none}
	}
	for g := range r.groups {
		if !isLetter(heads[g]) {
			return api.Alarm{Kind: api.AlForm, Tick: tick, A: g, B: none}
		}
	}
	return api.Alarm{}
}

// first is the first alarm of a tick, if there is one; the lamps go on to that tick.
func (r rules) first(tick int, heads string, lamps []lamp) api.Alarm {
	first := r.misformed(tick, heads)
	if isAlarm(first) {
		return first
	}
	raise := func(a api.Alarm) {
		if !isAlarm(first) || inOrder(a, first) < 0 {
			first = a
		}
	}
	var turns [api.MaxGroups]turn
	for i, g := range r.groups {
		turns[i] = lamps[i].show(tick, heads[i])
		g.look(turns[i], raise)
	}
	for _, c := range r.conflicts {
		lookAtPair(c, turns[c.A], turns[c.B], raise)
	}
	return first
}

// look raises what is wrong with a group by itself.
func (g group) look(t turn, raise func(api.Alarm)) {
	alarm := func(kind int, wrong bool) {
		if wrong {
			raise(api.Alarm{Kind: kind, Tick: t.tick, A: g.number, B: none})
		}
	}
	alarm(api.AlStart, t.tick == 0 && t.now.letter != red)
	alarm(api.AlStep, t.tick > 0 && !g.mayFollow(t.was.letter, t.now.letter))
	alarm(api.AlAmber, t.isShort(amber, g.amber) || t.isOver(amber, g.amber))
	alarm(api.AlLead, t.isShort(lead, g.lead) || t.isOver(lead, g.lead))
	alarm(api.AlMin, t.isShort(green, g.min))
}

func (g group) mayFollow(was, now byte) bool {
	switch was {
	case red:
		return now == red || now == lead && g.lead > 0 || now == green && g.lead == 0
	case lead:
		return now == lead || now == green
	case green:
		return now == green || now == amber && g.amber > 0 || now == red && g.amber == 0
	}
	return now == amber || now == red
}

// lookAtPair raises what is wrong between two groups in conflict.
func lookAtPair(c api.Conflict, a, b turn, raise func(api.Alarm)) {
	if a.now.isAway() && b.now.isAway() && !(a.was.isAway() && b.was.isAway()) {
		raise(api.Alarm{Kind: api.AlClash, Tick: a.tick, A: c.A, B: c.B})
	}
	if kind := early(a, b, c.AB); kind != api.AlNone {
		raise(api.Alarm{Kind: kind, Tick: a.tick, A: c.A, B: c.B})
	}
	if kind := early(b, a, c.BA); kind != api.AlNone {
		raise(api.Alarm{Kind: kind, Tick: a.tick, A: c.B, B: c.A})
	}
}

// early is the kind of alarm, if a group leaves red ahead of the end of the intergreen from its foe.
func early(foe, t turn, inter int) int {
	switch {
	case !t.leavesRed() || t.tick-foe.was.free >= inter:
		return api.AlNone
	case foe.was.free == 0:
		return api.AlStart
	}
	return api.AlInter
}

func isAlarm(a api.Alarm) bool { return a.Kind != api.AlNone }

// inOrder compares alarms by the order in which they are told. No two of one trace are equal in it.
func inOrder(a, b api.Alarm) int {
	return cmp.Or(cmp.Compare(a.Tick, b.Tick), cmp.Compare(a.Kind, b.Kind), cmp.Compare(a.A, b.A), cmp.Compare(a.B, b.B))
}
