package rom

import (
	"junction/api"
	"junction/check"
	"junction/lex"
)

const (
	maxShort = 1<<16 - 1       // the greatest number of two bytes
	maxPlace = api.MaxCode - 1 // the last instruction's place
)

// formed counts first: the lists that are gone through behind that are short.
func formed(m *api.Image) bool {
	return formedCounts(m) && check.Grid(m.Tables) && isName(m.Name) && formedNames(m) &&
		formedDets(m.Dets) && formedSlots(m) && formedCode(m.Code)
}

func formedCounts(m *api.Image) bool {
	return len(m.Dets) <= api.MaxDets && within(m.Timers, 0, api.MaxTimers) && within(m.Counters, 0, api.MaxCounters) &&
		len(m.Vars) <= api.MaxVars && len(m.Pool) <= api.MaxPool && within(len(m.Slots), 1, api.MaxStages) &&
		within(m.Start, 0, len(m.Slots)-1) && within(m.Depth, 0, maxShort) && len(m.Code) <= api.MaxCode
}

func formedNames(m *api.Image) bool {
	taken := names{}
	for _, g := range m.Tables.Groups {
		if !isName(g.Name) || !taken.add(g.Name) {
			return false
		}
	}
	for _, d := range m.Dets {
		if !isName(d.Name) || !taken.add(d.Name) {
			return false
		}
	}
	return true
}

func formedDets(dets []api.Det) bool {
	for _, d := range dets {
		if !within(d.Delay, 0, api.MaxTime) || !within(d.Hold, 0, api.MaxTime) {
			return false
		}
	}
	return true
}

func formedSlots(m *api.Image) bool {
	last := -1
	for _, s := range m.Slots {
		if !within(s.Id, last+1, api.MaxStages-1) || !greenOf(s.Green, m.Tables.Groups) ||
			!within(s.Enter, 0, maxPlace) || !within(s.Tick, 0, maxPlace) || !within(s.Leave, 0, maxPlace) {
			return false
		}
		last = s.Id
	}
	return true
}

func formedCode(code []api.Instr) bool {
	for _, in := range code {
		if s, known := shapeOf(in.Op); !known || !within(int(in.Arg), s.lo, s.hi) {
			return false
		}
	}
	return true
}

func isName(word string) bool { return lex.KindOf(word) == api.TkName }

// greenOf tells whether a mask names groups alone that are there.
func greenOf(green uint64, groups []api.Group) bool { return green>>len(groups) == 0 }

func within(n, lo, hi int) bool { return lo <= n && n <= hi }

// names are those of the groups and detectors, among which none may stand twice.
type names map[string]struct{}

// add answers false if the name is there already.
func (n names) add(name string) bool {
	if _, there := n[name]; there {
		return false
	}
	n[name] = struct{}{}
	return true
}
