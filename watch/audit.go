package watch

import (
	"slices"
	"sync"

	"junction/api"
)

// audit are all alarms of a trace. Each group and each pair in conflict has a worker of its own, so that only the sorting tells in which order alarms come.
func (r rules) audit(trace []string) []api.Alarm {
	formed, list := r.formedPart(trace)
	alarms := make(chan api.Alarm)
	raise := func(a api.Alarm) { alarms <- a }
	var workers, closer sync.WaitGroup
	for _, g := range r.groups {
		workers.Go(func() { g.follow(formed, raise) })
	}
	for _, c := range r.conflicts {
		workers.Go(func() { followPair(c, formed, raise) })
	}
	closer.Go(func() {
		workers.Wait()
		close(alarms)
	})
	for a := range alarms {
		list = append(list, a)
	}
	closer.Wait()
	slices.SortFunc(list, inOrder)
	return list
}

// formedPart are the texts ahead of the first one that is not formed, and that one's alarm: nothing behind it is looked at.
func (r rules) formedPart(trace []string) ([]string, []api.Alarm) {
	for tick, heads := range trace {
		if alarm := r.misformed(tick, heads); isAlarm(alarm) {
			return trace[:tick], []api.Alarm{alarm}
		}
	}
	return trace, nil
}

// follow looks at a group over a whole trace.
func (g group) follow(trace []string, raise func(api.Alarm)) {
	var l lamp
	for tick, heads := range trace {
		g.look(l.show(tick, heads[g.number]), raise)
	}
}

// followPair looks at two groups in conflict over a whole trace.
func followPair(c api.Conflict, trace []string, raise func(api.Alarm)) {
	var a, b lamp
	for tick, heads := range trace {
		lookAtPair(c, a.show(tick, heads[c.A]), b.show(tick, heads[c.B]), raise)
	}
}
