package load

import "junction/api"

// section is a piece of the code that the machine runs by itself.
type section struct {
	slot     int  // whose it is
	tick     bool // whether it is the one that is run at each tick
	from, to int  // its first place, and the one behind its last
}

// sectionsOf cuts the code at the entries, which must rise from its first place on.
func sectionsOf(m *api.Image) []section {
	var list []section
	for i, s := range m.Slots {
		list = append(list, section{slot: i, from: s.Enter}, section{slot: i, from: s.Tick, tick: true}, section{slot: i, from: s.Leave})
	}
	for i := range list {
		list[i].to = len(m.Code)
		if i == 0 && list[i].from != 0 || i > 0 && list[i].from <= list[i-1].from || list[i].from >= len(m.Code) {
			giveUp(api.ErrSection, list[i].from)
		}
		if i > 0 {
			list[i-1].to = list[i].from
		}
	}
	return list
}

func (s section) has(place int) bool { return s.from <= place && place < s.to }
