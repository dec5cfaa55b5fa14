package bank

import "junction/api"

// state is what the slots hold, and which one is picked.
type state struct {
	held   [api.MaxSlots][]byte
	picked int
}

func (s *state) holds(slot int) bool { return len(s.held[slot]) > 0 }

// take changes the state as a record says.
func (s *state) take(r record) {
	switch r.kind {
	case kindPut:
		s.held[r.slot] = r.data
	case kindDrop:
		s.held[r.slot] = nil
		if s.picked == r.slot {
			s.picked = none
		}
	case kindPick:
		s.picked = none
		if r.slot != none && s.holds(r.slot) {
			s.picked = r.slot
		}
	}
}

// records are the fewest that bring the state about.
func (s *state) records() []record {
	var list []record
	for slot, data := range s.held {
		if s.holds(slot) {
			list = append(list, record{kind: kindPut, slot: slot, data: data})
		}
	}
	if s.picked != none {
		list = append(list, record{kind: kindPick, slot: s.picked})
	}
	return list
}

// size is how many bytes a half needs for the state alone.
func (s *state) size() int {
	n := headerSize
	for _, r := range s.records() {
		n += r.size()
	}
	return n
}
