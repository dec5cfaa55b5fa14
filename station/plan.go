package station

import (
	"bytes"

	"junction/api"
	"junction/load"
	"junction/timetable"
)

const (
	noSlot    = -1 // that which is picked, runs or is wanted where none is
	tableSlot = 8  // the bank's last one holds the timetable, the others hold plans
)

// plan is a slot's image, which the loader has let in.
type plan struct {
	slot  int
	bytes []byte
	image api.Image
}

func (p *plan) tables() api.Tables { return p.image.Tables }

// equals tells whether another plan is of the same slot and has the same bytes; nil is none.
func (p *plan) equals(other *plan) bool { return other != nil && p.is(other.slot, other.bytes) }

func (p *plan) is(slot int, data []byte) bool { return p.slot == slot && bytes.Equal(p.bytes, data) }

// wanted tells by the minute the plan that is wanted, or nil, for as long as the bank stays as it is. So it asks the bank but once a minute.
func (p *powered) wanted() func(minute int) *plan {
	slot := p.inForce()
	asked, found := -1, (*plan)(nil)
	return func(minute int) *plan {
		if minute != asked {
			asked, found = minute, p.planOf(slot(minute))
		}
		return found
	}
}

// inForce tells by the minute the slot that is picked, or else that of the timetable.
func (p *powered) inForce() func(minute int) int {
	picked := p.bank.Picked()
	if picked != noSlot {
		return func(int) int { return picked }
	}
	// A slot that holds nothing has no text that is a timetable.
	text, _ := p.bank.Get(tableSlot)
	table, fault := timetable.Parse(string(text))
	if fault.Code != api.OK {
		return func(int) int { return noSlot }
	}
	return func(minute int) int {
		slot, e := timetable.At(table, minute)
		if e != api.OK || slot == api.SlotFlash {
			return noSlot
		}
		return slot
	}
}

// planOf is a slot's plan, or nil. What runs has been loaded once: it is not loaded again.
func (p *powered) planOf(slot int) *plan {
	data, e := p.bank.Get(slot)
	if e != api.OK || slot == tableSlot {
		return nil
	}
	if p.plan != nil && p.plan.is(slot, data) {
		return p.plan
	}
	image, fault := load.Load(data)
	if fault.Code != api.OK {
		return nil
	}
	return &plan{slot: slot, bytes: data, image: image}
}

// refusal is the fault of bytes that a slot may not hold.
func refusal(slot int, data []byte) api.Fault {
	if slot == tableSlot {
		_, fault := timetable.Parse(string(data))
		return fault
	}
	_, fault := load.Load(data)
	return fault
}
