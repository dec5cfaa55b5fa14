package safety_test

import (
	"slices"

	"junction/api"
)

// A second way to all answers, over sets of groups and a grid of intergreens.

type set [64]bool

func setOf(t api.Tables, mask uint64) set {
	var s set
	for g := range t.Groups {
		s[g] = mask&(1<<g) != 0
	}
	return s
}

// foe is what two groups have with one another.
type foe struct {
	is    bool
	inter int
}

func gridOf(t api.Tables) [64][64]foe {
	var grid [64][64]foe
	for _, c := range t.Conflicts {
		grid[c.A][c.B], grid[c.B][c.A] = foe{true, c.AB}, foe{true, c.BA}
	}
	return grid
}

func modelClashes(t api.Tables, mask uint64) bool {
	grid, in := gridOf(t), setOf(t, mask)
	for a := range t.Groups {
		for b := range t.Groups {
			if grid[a][b].is && in[a] && in[b] {
				return true
			}
		}
	}
	return false
}

// modelMove lists all ticks that count, and takes the last of them.
func modelMove(t api.Tables, from, to uint64, settled bool) (int, api.Errno) {
	if modelClashes(t, from) || modelClashes(t, to) {
		return 0, api.ErrClash
	}
	grid, first, second := gridOf(t), setOf(t, from), setOf(t, to)
	ticks := []int{0}
	for g, row := range t.Groups {
		if first[g] && !second[g] {
			ticks = append(ticks, 1+row.Amber)
		}
		if first[g] || !second[g] {
			continue
		}
		starts := []int{1}
		for o, other := range t.Groups {
			if grid[o][g].is && (!settled || first[o] && !second[o]) {
				starts = append(starts, 1+grid[o][g].inter, 1+other.Amber)
			}
		}
		ticks = append(ticks, slices.Max(starts)+row.Lead)
	}
	return slices.Max(ticks), api.OK
}

func modelHold(t api.Tables, from, to uint64) int {
	hold := []int{0}
	first, second := setOf(t, from), setOf(t, to)
	for g, row := range t.Groups {
		if first[g] && !second[g] {
			hold = append(hold, row.Min-1)
		}
	}
	return slices.Max(hold)
}

// modelReach goes over all nexts until nothing is added.
func modelReach(p api.Typed) []bool {
	reached := make([]bool, len(p.Stages))
	reached[p.Start] = true
	for range p.Stages {
		for i, s := range p.Stages {
			for _, n := range s.Nexts {
				reached[n.To] = reached[n.To] || reached[i]
			}
		}
	}
	return reached
}

// modelFindings are all of them, beyond MaxFindings too.
func modelFindings(p api.Typed) []api.Finding {
	var list []api.Finding
	tell := func(yes bool, e api.Errno, stage, a, b int) {
		if yes {
			list = append(list, finding(e, stage, a, b))
		}
	}
	t, reached := p.Tables, modelReach(p)
	for g, row := range t.Groups {
		vehicle := row.Sort == api.Vehicle
		tell(row.Min < 4 || vehicle && row.Min == 4, api.ErrMin, -1, g, -1)
		tell(vehicle && row.Amber < 3, api.ErrAmber, -1, g, -1)
		tell(row.Lead > 3 || !vehicle && row.Lead > 0, api.ErrLead, -1, g, -1)
	}
	for _, c := range t.Conflicts {
		tell(c.AB < t.Groups[c.A].Amber, api.ErrShort, -1, c.A, c.B)
		tell(c.BA < t.Groups[c.B].Amber, api.ErrShort, -1, c.B, c.A)
	}
	for i, s := range p.Stages {
		for _, c := range t.Conflicts {
			tell(setOf(t, s.Green)[c.A] && setOf(t, s.Green)[c.B], api.ErrClash, i, c.A, c.B)
		}
	}
	for i, s := range p.Stages {
		tell(reached[i] && len(s.Nexts) == 0, api.ErrTrap, i, -1, -1)
	}
	for g := range t.Groups {
		never := true
		for i, s := range p.Stages {
			never = never && !(reached[i] && setOf(t, s.Green)[g])
		}
		tell(never, api.ErrNever, -1, g, -1)
	}
	n, _ := modelMove(t, 0, p.Stages[p.Start].Green, false)
	tell(n > 3600, api.ErrSlow, -1, -1, p.Start)
	for i, s := range p.Stages {
		for _, next := range s.Nexts {
			n, _ := modelMove(t, s.Green, p.Stages[next.To].Green, false)
			tell(reached[i] && n > 3600, api.ErrSlow, i, -1, next.To)
		}
	}
	return list
}

func modelBound(p api.Typed) (int, api.Errno) {
	reached, refused := modelReach(p), api.OK
	bound, e := modelMove(p.Tables, 0, p.Stages[p.Start].Green, false)
	refused = max(refused, e)
	for i, s := range p.Stages {
		if reached[i] && modelClashes(p.Tables, s.Green) {
			refused = api.ErrClash
		}
		for _, next := range s.Nexts {
			if n, _ := modelMove(p.Tables, s.Green, p.Stages[next.To].Green, false); reached[i] {
				bound = max(bound, n)
			}
		}
	}
	if refused != api.OK {
		return 0, refused
	}
	return bound, api.OK
}
