package heads_test

import (
	"math"
	"math/rand"
	"slices"

	"junction/api"
)

// two are the tables of the chapter's examples.
func two() api.Tables {
	return api.Tables{
		Groups:    []api.Group{{Name: "a", Sort: api.Vehicle, Min: 2, Amber: 1}, {Name: "b", Sort: api.Vehicle, Min: 2, Amber: 1}},
		Conflicts: []api.Conflict{{A: 0, B: 1, AB: 3, BA: 2}},
	}
}

// lone is one group.
func lone(minimum, amber, lead int) api.Tables {
	return api.Tables{Groups: []api.Group{{Sort: api.Pedestrian, Min: minimum, Amber: amber, Lead: lead}}}
}

// crowd are n groups, each in conflict with all others.
func crowd(n int) api.Tables {
	var t api.Tables
	for a := range n {
		t.Groups = append(t.Groups, api.Group{Sort: api.Vehicle, Min: 1, Amber: 1, Lead: 1})
		for b := a + 1; b < n; b++ {
			t.Conflicts = append(t.Conflicts, api.Conflict{A: a, B: b, AB: 2, BA: 1})
		}
	}
	return t
}

// headsOf are heads told by a row for each group: its aspect, In and Away.
func headsOf(rows ...[3]int) api.Heads {
	var h api.Heads
	for _, row := range rows {
		h.Aspect, h.In, h.Away = append(h.Aspect, row[0]), append(h.In, int32(row[1])), append(h.Away, int32(row[2]))
	}
	return h
}

func same(h, o api.Heads) bool {
	return slices.Equal(h.Aspect, o.Aspect) && slices.Equal(h.In, o.In) && slices.Equal(h.Away, o.Away)
}

func isEmpty(h api.Heads) bool { return len(h.Aspect)+len(h.In)+len(h.Away) == 0 }

func in(mask uint64, group int) bool { return mask&(1<<group) != 0 }

func pick[T any](r *rand.Rand, list ...T) T { return list[r.Intn(len(list))] }

// anyTables are sound tables of that many groups; of numbers that are not large if short.
func anyTables(r *rand.Rand, groups int, short bool) api.Tables {
	var t api.Tables
	for range groups {
		g := api.Group{Sort: 1 + r.Intn(2), Min: 1 + r.Intn(5), Amber: pick(r, 0, 0, 1, 2, 3), Lead: pick(r, 0, 0, 1, 2, 3)}
		if !short && r.Intn(3) == 0 {
			g.Min, g.Amber, g.Lead = pick(r, 1, 3600), pick(r, 0, 60), pick(r, 0, 60)
		}
		t.Groups = append(t.Groups, g)
	}
	dense := 1 + r.Intn(5)
	for a := range groups {
		for b := a + 1; b < groups; b++ {
			if r.Intn(dense) == 0 {
				t.Conflicts = append(t.Conflicts, api.Conflict{A: a, B: b, AB: anyInter(r, short), BA: anyInter(r, short)})
			}
		}
	}
	return t
}

func anyInter(r *rand.Rand, short bool) int {
	if !short && r.Intn(3) == 0 {
		return 3600
	}
	return r.Intn(8)
}

// anyHeads are sound for the tables, and mostly such as no run has: any count that may be.
func anyHeads(r *rand.Rand, t api.Tables) api.Heads {
	rows := make([][3]int, len(t.Groups))
	for _, g := range r.Perm(len(rows)) {
		aspect := r.Intn(4)
		for _, c := range t.Conflicts {
			if c.A == g && rows[c.B][0] != api.Red || c.B == g && rows[c.A][0] != api.Red {
				aspect = api.Red
			}
		}
		rows[g] = anyHead(r, t.Groups[g], aspect)
	}
	return headsOf(rows...)
}

// anyHead shows the aspect, or green where the group does not have it.
func anyHead(r *rand.Rand, g api.Group, aspect int) [3]int {
	count := func() int { return pick(r, 1+r.Intn(9), 1+r.Intn(9), 3599, 3600, math.MaxInt32) }
	switch {
	case aspect == api.Red:
		return [3]int{api.Red, count(), count()}
	case aspect == api.Lead && g.Lead > 0:
		return [3]int{api.Lead, 1 + r.Intn(g.Lead), count()}
	case aspect == api.Amber && g.Amber > 0:
		return [3]int{api.Amber, 1 + r.Intn(g.Amber), count()}
	}
	return [3]int{api.Green, pick(r, count(), max(g.Min-1, 1), g.Min), 0}
}

// anyMask has any bits, also those of no group; calm: no two of its groups conflict.
func anyMask(r *rand.Rand, t api.Tables, calm bool) uint64 {
	mask := pick(r, r.Uint64(), r.Uint64()&r.Uint64(), 0, ^uint64(0), 1<<r.Intn(64))
	for _, c := range t.Conflicts {
		if calm && in(mask, c.A) && in(mask, c.B) {
			mask &^= 1 << pick(r, c.A, c.B)
		}
	}
	return mask
}

// anyWants are n of them: some change at each tick, some last for a while.
func anyWants(r *rand.Rand, t api.Tables, n int) []uint64 {
	wants := make([]uint64, n)
	calm, lasts := r.Intn(2) == 0, pick(r, 1, 3, 12)
	for i := range wants {
		if i > 0 && r.Intn(lasts) > 0 {
			wants[i] = wants[i-1]
		} else {
			wants[i] = anyMask(r, t, calm)
		}
	}
	return wants
}
