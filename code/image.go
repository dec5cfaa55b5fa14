package code

import (
	"slices"

	"junction/api"
)

// imageOf is the image of a sound plan.
func imageOf(t api.Typed) api.Image {
	m := api.Image{
		Name:     t.Name,
		Tables:   api.Tables{Groups: slices.Clone(t.Tables.Groups), Conflicts: slices.Clone(t.Tables.Conflicts)},
		Dets:     slices.Clone(t.Dets),
		Timers:   len(t.Timers),
		Counters: len(t.Counters),
		Start:    t.Start,
	}
	for _, v := range t.Vars {
		m.Vars = append(m.Vars, v.Init)
	}
	w := newWriter(0, nil)
	for _, s := range t.Stages {
		m.Slots = append(m.Slots, w.slot(s))
	}
	m.Pool, m.Depth, m.Code = w.pool, w.depth, w.code
	return m
}

// slot writes the three sections of a stage.
func (w *writer) slot(s api.TStage) api.Slot {
	slot := api.Slot{Id: s.Id, Green: s.Green}
	slot.Enter = w.section(s.Enter, nil)
	slot.Tick = w.section(s.During, s.Nexts)
	slot.Leave = w.section(s.Leave, nil)
	return slot
}

// section tells where it begins.
func (w *writer) section(l []api.Stmt, nexts []api.TNext) int {
	begin := w.here()
	w.body(l)
	for _, n := range nexts {
		w.expression(n.When)
		w.await(w.jump(api.InIf))
		w.put(api.InPick, int32(n.To))
		w.land()
	}
	w.put(api.InEnd, 0)
	return begin
}
