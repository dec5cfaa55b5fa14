package rom

import "junction/api"

func (r *reader) title() { r.image.Name = r.name() }

func (r *reader) groups() {
	for range r.number(1, 0, api.MaxGroups) {
		r.image.Tables.Groups = append(r.image.Tables.Groups, api.Group{
			Name:  r.ownName(),
			Sort:  r.number(1, api.Vehicle, api.Pedestrian),
			Min:   r.number(2, 1, api.MaxTime),
			Amber: r.number(1, 0, api.MaxAmber),
			Lead:  r.number(1, 0, api.MaxAmber),
		})
	}
}

func (r *reader) conflicts() {
	last := api.Conflict{A: -1}
	for range r.number(2, 0, maxConflicts) {
		last = r.conflict(last)
		r.image.Tables.Conflicts = append(r.image.Tables.Conflicts, last)
	}
}

// conflict reads one whose pair is greater than the last one's. Both groups may be wrong by that: it is told at the second one.
func (r *reader) conflict(last api.Conflict) api.Conflict {
	groups := len(r.image.Tables.Groups)
	a, at := r.number(1, 0, groups-1), r.at
	b := r.number(1, a+1, groups-1)
	if a < last.A || a == last.A && b <= last.B {
		giveUp(api.ErrField, at)
	}
	return api.Conflict{A: a, B: b, AB: r.number(2, 0, api.MaxTime), BA: r.number(2, 0, api.MaxTime)}
}

func (r *reader) dets() {
	for range r.number(1, 0, api.MaxDets) {
		r.image.Dets = append(r.image.Dets, api.Det{
			Name:  r.ownName(),
			Latch: r.number(1, 0, 1) == 1,
			Delay: r.number(2, 0, api.MaxTime),
			Hold:  r.number(2, 0, api.MaxTime),
		})
	}
}

func (r *reader) numbers() {
	r.image.Timers = r.number(1, 0, api.MaxTimers)
	r.image.Counters = r.number(1, 0, api.MaxCounters)
	r.image.Vars = r.words(r.number(1, 0, api.MaxVars))
}

func (r *reader) pool() { r.image.Pool = r.words(r.number(2, 0, api.MaxPool)) }

func (r *reader) slots() {
	at := r.at
	r.image.Start = r.number(2, 0, maxShort)
	count := r.number(2, 1, api.MaxStages)
	if r.image.Start >= count {
		giveUp(api.ErrField, at)
	}
	last := -1
	for range count {
		s := r.slot(last)
		r.image.Slots = append(r.image.Slots, s)
		last = s.Id
	}
}

func (r *reader) slot(last int) api.Slot {
	return api.Slot{
		Id:    r.number(1, last+1, api.MaxStages-1),
		Green: r.green(),
		Enter: r.number(4, 0, maxPlace),
		Tick:  r.number(4, 0, maxPlace),
		Leave: r.number(4, 0, maxPlace),
	}
}

func (r *reader) green() uint64 {
	at := r.at
	green := r.raw(8)
	if !greenOf(green, r.image.Tables.Groups) {
		giveUp(api.ErrField, at)
	}
	return green
}

func (r *reader) code() {
	r.image.Depth = r.number(2, 0, maxShort)
	for range r.number(4, 0, api.MaxCode) {
		r.image.Code = append(r.image.Code, r.instruction())
	}
}

func (r *reader) instruction() api.Instr {
	at := r.at
	op := r.number(1, 0, 255)
	s, known := shapeOf(op)
	if !known {
		giveUp(api.ErrField, at)
	}
	return api.Instr{Op: op, Arg: int32(r.number(s.width, s.lo, s.hi))}
}
