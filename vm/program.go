package vm

import (
	"slices"

	"junction/api"
)

// program is what a tick asks of an image.
type program struct {
	tables api.Tables
	dets   []api.Det
	pool   []int32
	code   []api.Instr
	ids    []int            // of the slots, by their places: code names slots by these, a state by their Ids
	slots  map[int]api.Slot // by their Ids
}

// programOf shares no memory with the image.
func programOf(m api.Image) program {
	p := program{
		tables: api.Tables{Groups: slices.Clone(m.Tables.Groups), Conflicts: slices.Clone(m.Tables.Conflicts)},
		dets:   slices.Clone(m.Dets),
		pool:   slices.Clone(m.Pool),
		code:   slices.Clone(m.Code),
		ids:    make([]int, len(m.Slots)),
		slots:  make(map[int]api.Slot, len(m.Slots)),
	}
	for i, s := range m.Slots {
		p.ids[i], p.slots[s.Id] = s.Id, s
	}
	return p
}
