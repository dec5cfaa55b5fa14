package bank

import "junction/api"

// reach refuses a slot below the least one or above the last one, and all slots of a bank without a flash.
func (b *Bank) reach(slot, least int) error {
	switch {
	case b.flash == nil:
		return errDisk
	case slot < least || slot >= api.MaxSlots:
		return errSlot
	}
	return nil
}

// get is what a slot holds, in the flash itself.
func (b *Bank) get(slot int) ([]byte, error) {
	if err := b.reach(slot, 0); err != nil {
		return nil, err
	}
	if !b.state.holds(slot) {
		return nil, errEmpty
	}
	return b.state.held[slot], nil
}

func (b *Bank) put(slot int, data []byte) error {
	if err := b.reach(slot, 0); err != nil {
		return err
	}
	if len(data) == 0 || len(data) > api.MaxData {
		return errData
	}
	return b.change(record{kind: kindPut, slot: slot, data: data})
}

func (b *Bank) drop(slot int) error {
	if _, err := b.get(slot); err != nil {
		return err
	}
	if slot == b.state.picked {
		return errInUse
	}
	return b.change(record{kind: kindDrop, slot: slot})
}

func (b *Bank) pick(slot int) error {
	if err := b.reach(slot, none); err != nil {
		return err
	}
	if slot != none && !b.state.holds(slot) {
		return errEmpty
	}
	if slot == b.state.picked {
		return nil
	}
	return b.change(record{kind: kindPick, slot: slot})
}

// change writes a record behind the log, or, where it has no room there, the state as it will be into the other half.
func (b *Bank) change(r record) error {
	next := b.state
	next.take(r)
	if next.size() > b.halfSize() {
		return errSpace
	}
	if b.end+r.size() > b.halfSize() {
		return b.move(next)
	}
	b.program(b.start(b.active)+b.end, r.bytes())
	b.follow()
	return nil
}

// move writes a state into the half that is not active. Its header is last: up to then the old half counts.
func (b *Bank) move(s state) error {
	now := generation(b.half(b.active))
	if now == maxGen {
		return about("byte", b.start(b.active)+b.end, errWorn)
	}
	other := 1 - b.active
	b.wipe(other)
	at := b.start(other) + headerSize
	for _, r := range s.records() {
		b.program(at, r.bytes())
		at += r.size()
	}
	b.program(b.start(other), header(now+1, b.halfSize()))
	b.enter(other)
	return nil
}
