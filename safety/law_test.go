package safety_test

import (
	"math/rand"
	"slices"
	"testing"

	"junction/api"
	"junction/safety"
)

// both are Span and Longest of a move that is not refused.
func both(t *testing.T, tables api.Tables, from, to uint64) [2]int {
	t.Helper()
	span, e := safety.Span(tables, from, to)
	longest, f := safety.Longest(tables, from, to)
	if e != api.OK || f != api.OK {
		t.Fatalf("%d, %d of %x, %x in %+v", e, f, from, to, tables)
	}
	return [2]int{span, longest}
}

// grown are tables of which one number is greater, if it may be.
func grown(r *rand.Rand, t api.Tables) api.Tables {
	t.Groups, t.Conflicts = slices.Clone(t.Groups), slices.Clone(t.Conflicts)
	grow := func(n *int, most int) { *n += r.Intn(most - *n + 1) }
	g := &t.Groups[r.Intn(len(t.Groups))]
	switch r.Intn(4) {
	case 0:
		grow(&g.Amber, pick(r, g.Amber, min(g.Amber+9, 60), 60))
	case 1:
		grow(&g.Lead, pick(r, min(g.Lead+2, 60), 60))
	default:
		if len(t.Conflicts) > 0 {
			c := &t.Conflicts[r.Intn(len(t.Conflicts))]
			grow(pick(r, &c.AB, &c.BA), 3600)
		}
	}
	return t
}

// P6.10: Span is at most Longest; neither grows less; neither hangs on the groups' numbers.
func TestSpanAndLongest(t *testing.T) {
	t.Parallel()
	r := rand.New(rand.NewSource(610))
	apart, more := 0, 0
	for range 15000 {
		tables := anyTables(r, 1+r.Intn(9), r.Intn(2) == 0)
		from, to := anyMask(r, tables, true), anyMask(r, tables, true)
		n := both(t, tables, from, to)
		if n[0] > n[1] {
			t.Fatalf("Span %d is above Longest %d of %x, %x in %+v", n[0], n[1], from, to, tables)
		}
		if n[0] < n[1] {
			apart++
		}
		wide := grown(r, tables)
		m := both(t, wide, from, to)
		if m[0] < n[0] || m[1] < n[1] {
			t.Fatalf("%v became %v of %x, %x in %+v and %+v", n, m, from, to, tables, wide)
		}
		if m != n {
			more++
		}
		i, j := r.Intn(len(tables.Groups)), r.Intn(len(tables.Groups))
		other, masks := swapped(tables, i, j, from, to)
		if m := both(t, other, masks[0], masks[1]); m != n {
			t.Fatalf("%v, with %d and %d changed %v, of %x, %x in %+v", n, i, j, m, from, to, tables)
		}
	}
	if apart < 1000 || more < 1000 {
		t.Errorf("too few that differ: %d, %d", apart, more)
	}
}

// unreachedChanged is a plan whose stages that are not reached do other things and go elsewhere.
func unreachedChanged(r *rand.Rand, p api.Typed) api.Typed {
	reached := modelReach(p)
	p.Stages = slices.Clone(p.Stages)
	for i := range p.Stages {
		s := &p.Stages[i]
		if reached[i] {
			continue
		}
		s.Enter, s.During, s.Leave, s.Nexts = nil, nil, nil, nil
		if r.Intn(2) == 0 {
			s.Enter = []api.Stmt{{Kind: api.StReset}}
		}
		for to := range p.Stages {
			if to != i && r.Intn(2) == 0 {
				s.Nexts = append(s.Nexts, api.TNext{To: to, When: truth(1)})
			}
		}
	}
	return p
}

// P6.12: of stages that are not reached only the Green bears on a finding, and only on ErrClash.
func TestUnreachedBearOnNothing(t *testing.T) {
	t.Parallel()
	r := rand.New(rand.NewSource(612))
	seen := 0
	for range 5000 {
		p := anyPlan(r)
		reached := modelReach(p)
		if !slices.Contains(reached, false) {
			continue
		}
		q := unreachedChanged(r, p)
		x, e := safety.Check(p)
		y, f := safety.Check(q)
		if e != api.OK || f != api.OK || !slices.Equal(x, y) {
			t.Fatalf("%v, %v of %+v and %+v", x, y, p, q)
		}
		n, e := safety.Bound(p)
		m, f := safety.Bound(q)
		if n != m || e != f {
			t.Fatalf("Bound %d, %d and %d, %d of %+v and %+v", n, e, m, f, p, q)
		}
		for i := range q.Stages {
			if !reached[i] {
				q.Stages[i].Green = anyMask(r, q.Tables, r.Intn(2) == 0) & groupBits(q.Tables)
			}
		}
		if y, _ = safety.Check(q); len(x) == 64 || len(y) == 64 {
			continue
		}
		own := func(f api.Finding) bool { return f.Code == api.ErrClash && !reached[f.Stage] }
		if x, y = slices.DeleteFunc(x, own), slices.DeleteFunc(y, own); !slices.Equal(x, y) {
			t.Fatalf("%v, %v of %+v and %+v", x, y, p, q)
		}
		seen++
	}
	if seen < 500 {
		t.Errorf("only %d plans", seen)
	}
}
