package safety_test

import (
	"fmt"
	"math/rand"
	"slices"
	"testing"

	"junction/api"
	"junction/check"
	"junction/tree"
)

// three are the tables of the chapter's examples.
func three() api.Tables {
	return api.Tables{
		Groups: []api.Group{
			{Name: "a", Sort: api.Vehicle, Min: 5, Amber: 3, Lead: 1},
			{Name: "b", Sort: api.Vehicle, Min: 5, Amber: 3, Lead: 1},
			{Name: "c", Sort: api.Pedestrian, Min: 4},
		},
		Conflicts: []api.Conflict{{A: 0, B: 1, AB: 4, BA: 5}, {A: 0, B: 2, AB: 6, BA: 8}},
	}
}

// crowd are n vehicles without a fault of their own, each in conflict with all others.
func crowd(n int) api.Tables {
	var t api.Tables
	for a := range n {
		t.Groups = append(t.Groups, api.Group{Name: fmt.Sprintf("g%d", a), Sort: api.Vehicle, Min: 5, Amber: 3})
		for b := a + 1; b < n; b++ {
			t.Conflicts = append(t.Conflicts, api.Conflict{A: a, B: b, AB: 3, BA: 3})
		}
	}
	return t
}

// resolved is the typed plan of a text.
func resolved(t *testing.T, text string) api.Typed {
	t.Helper()
	p, f := tree.Parse(text)
	if f != (api.Fault{}) {
		t.Fatalf("%s: %v", text, f)
	}
	typed, f := check.Resolve(p)
	if f != (api.Fault{}) {
		t.Fatalf("%s: %v", text, f)
	}
	return typed
}

// stagesOf are stages with those masks and nexts, which are always true.
func stagesOf(tables api.Tables, greens []uint64, nexts ...[]int) api.Typed {
	p := api.Typed{Name: "p", Tables: tables}
	for i, green := range greens {
		s := api.TStage{Name: fmt.Sprintf("s%d", i), Id: i, Green: green}
		if i < len(nexts) {
			for _, to := range nexts[i] {
				s.Nexts = append(s.Nexts, api.TNext{To: to, When: truth(1)})
			}
		}
		p.Stages = append(p.Stages, s)
	}
	return p
}

func truth(val int32) []api.Node { return []api.Node{{Op: api.OpBool, Val: val}} }

// finding is one whose fields are told by what is given of them: stage, a, b; -1 is none.
func finding(e api.Errno, stage, a, b int) api.Finding {
	return api.Finding{Code: e, Stage: stage, A: a, B: b}
}

func pick[T any](r *rand.Rand, list ...T) T { return list[r.Intn(len(list))] }

// anyTables are sound tables of that many groups; of numbers that are not large if short.
func anyTables(r *rand.Rand, groups int, short bool) api.Tables {
	var t api.Tables
	for i := range groups {
		g := api.Group{Name: fmt.Sprintf("g%d", i), Sort: 1 + r.Intn(2), Min: pick(r, 1, 3, 4, 5, 6, 9), Amber: pick(r, 0, 2, 3, 4), Lead: pick(r, 0, 1, 3, 4)}
		if !short && r.Intn(4) == 0 {
			g.Min, g.Amber, g.Lead = pick(r, 1, 3600), pick(r, 0, 60), pick(r, 0, 60)
		}
		t.Groups = append(t.Groups, g)
	}
	dense := 1 + r.Intn(6)
	for a := range groups {
		for b := a + 1; b < groups; b++ {
			if r.Intn(dense) == 0 {
				t.Conflicts = append(t.Conflicts, api.Conflict{A: a, B: b, AB: anyInter(r, short), BA: anyInter(r, short)})
			}
		}
	}
	return t
}

func anyInter(r *rand.Rand, short bool) int {
	if !short && r.Intn(8) == 0 {
		return pick(r, 3535, 3539, 3540, 3590, 3595, 3596, 3597, 3598, 3599, 3600)
	}
	return r.Intn(9)
}

// anyMask has any bits, also those of no group; calm: without a clash.
func anyMask(r *rand.Rand, t api.Tables, calm bool) uint64 {
	mask := pick(r, r.Uint64(), r.Uint64()&r.Uint64(), 0)
	if r.Intn(2) == 0 {
		mask &= groupBits(t)
	}
	for _, c := range t.Conflicts {
		if calm && mask>>c.A&1 == 1 && mask>>c.B&1 == 1 {
			mask &^= 1 << pick(r, c.A, c.B)
		}
	}
	return mask
}

func groupBits(t api.Tables) uint64 {
	var mask uint64
	for g := range t.Groups {
		mask |= 1 << g
	}
	return mask
}

// anyPlan is a sound plan, mostly of stages that don't clash.
func anyPlan(r *rand.Rand) api.Typed {
	p := api.Typed{Name: "p", Tables: anyTables(r, pick(r, 0, 1, 2, 3, 4, 6, 9, 20, 64), r.Intn(3) == 0), Timers: []string{"t"}}
	wild, stages := r.Intn(3) == 0, 1+r.Intn(9)
	id := 0
	for i := range stages {
		id += pick(r, 0, 0, 3)
		s := api.TStage{Name: fmt.Sprintf("s%d", i), Id: id, Green: anyMask(r, p.Tables, !wild || r.Intn(2) == 0) & groupBits(p.Tables)}
		id++
		for range r.Intn(4) {
			if to := r.Intn(stages); to != i {
				s.Nexts = append(s.Nexts, api.TNext{To: to, When: truth(r.Int31n(2))})
			}
		}
		for range r.Intn(2) {
			s.During = append(s.During, api.Stmt{Kind: api.StRun})
		}
		p.Stages = append(p.Stages, s)
	}
	p.Start = r.Intn(stages)
	return p
}

// swapped are tables and masks with groups i and j changed with one another.
func swapped(t api.Tables, i, j int, masks ...uint64) (api.Tables, []uint64) {
	other := func(g int) int {
		switch g {
		case i:
			return j
		case j:
			return i
		}
		return g
	}
	u := api.Tables{Groups: slices.Clone(t.Groups)}
	u.Groups[i], u.Groups[j] = t.Groups[j], t.Groups[i]
	for _, c := range t.Conflicts {
		c.A, c.B = other(c.A), other(c.B)
		if c.A > c.B {
			c.A, c.B, c.AB, c.BA = c.B, c.A, c.BA, c.AB
		}
		u.Conflicts = append(u.Conflicts, c)
	}
	slices.SortFunc(u.Conflicts, func(c, d api.Conflict) int { return (c.A-d.A)*64 + c.B - d.B })
	var out []uint64
	for _, m := range masks {
		var n uint64
		for g := range 64 {
			n |= m >> g & 1 << other(g)
		}
		out = append(out, n)
	}
	return u, out
}
