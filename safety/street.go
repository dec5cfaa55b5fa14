package safety

import (
	"cmp"
	"slices"

	"junction/api"
	"junction/check"
)

// pair is two groups: the first one loses its green, the second one waits for it.
type pair [2]int

// street is sound tables, the intergreens by their pairs: each conflict is two of them.
type street struct {
	groups []api.Group
	inter  map[pair]int
}

func streetOf(t api.Tables) street {
	s := street{groups: t.Groups, inter: make(map[pair]int, 2*len(t.Conflicts))}
	for _, c := range t.Conflicts {
		s.inter[pair{c.A, c.B}] = c.AB
		s.inter[pair{c.B, c.A}] = c.BA
	}
	return s
}

// waitsFor are the ticks for which each group stays red, from the first tick of a move on, for its foes among the given groups.
func (s street) waitsFor(among uint64) []int {
	list := make([]int, len(s.groups))
	for p, ticks := range s.inter {
		foe, group := p[0], p[1]
		if has(among, foe) {
			list[group] = max(list[group], ticks, s.groups[foe].Amber)
		}
	}
	return list
}

// through is the tick at which a move ends, if each group that gains green waits for so long.
func (s street) through(from, to uint64, waits []int) int {
	end := 0
	for i, g := range s.groups {
		switch {
		case has(from&^to, i):
			end = max(end, 1+g.Amber)
		case has(to&^from, i):
			end = max(end, 1+waits[i]+g.Lead)
		}
	}
	return end
}

// shorts are the pairs whose intergreen does not cover the amber of the first group, in the order of the conflicts.
func (s street) shorts() []pair {
	var list []pair
	for p, ticks := range s.inter {
		if ticks < s.groups[p[0]].Amber {
			list = append(list, p)
		}
	}
	slices.SortFunc(list, byConflict)
	return list
}

// byConflict sorts pairs as sound tables have their conflicts; of the two pairs of one conflict that of A to B is first.
func byConflict(p, q pair) int {
	return cmp.Or(cmp.Compare(min(p[0], p[1]), min(q[0], q[1])), cmp.Compare(max(p[0], p[1]), max(q[0], q[1])), cmp.Compare(p[0], q[0]))
}

// measure is how long a move takes where the groups of the third mask are waited for, or why it cannot be told.
func measure(t api.Tables, from, to, ahead uint64) (int, api.Errno) {
	if !check.Grid(t) {
		return 0, api.ErrTables
	}
	for _, mask := range [2]uint64{from, to} {
		if _, _, found := Clash(t, mask); found {
			return 0, api.ErrClash
		}
	}
	s := streetOf(t)
	return s.through(from, to, s.waitsFor(ahead)), api.OK
}

// has asks for a group of any number: no mask has one below 0 or above 63.
func has(mask uint64, group int) bool { return mask>>uint(group)&1 == 1 }

// allOf is the mask of all groups, the first 64 of them at most.
func allOf(groups []api.Group) uint64 { return 1<<uint(len(groups)) - 1 }
