package opt_test

import (
	"math/rand"
	"slices"
	"sync"
	"testing"

	"junction/api"
	"junction/check"
	"junction/opt"
	"junction/safety"
	"junction/sim"
	"junction/tree"
)

// P9.5, G3: nothing that is given is changed, and no answer shares memory with it, or list with list.
func TestNewMemory(t *testing.T) {
	t.Parallel()
	r := rand.New(rand.NewSource(95))
	for range 2500 {
		m := anyMaker(r)
		k := m.known()
		e := copied(m.expr(1+r.Intn(2), 1+r.Intn(12)))
		was := copied(e)
		opt.Range(e, k)
		folded, _ := opt.Fold(e, k)
		if !same(e, was) || shares(e, folded) {
			t.Fatalf("Fold(%s): shares memory, or makes it %s", told(was), told(e))
		}
		l := copied(m.list(3))
		wasList := copied(l)
		body, _, _ := opt.Body(l, k)
		if !same(l, wasList) || shares(l, body) {
			t.Fatalf("Body(%s): shares memory, or makes it %s", toldBody(wasList), toldBody(l))
		}
		x := copied(anyTyped(r))
		wasPlan := copied(x)
		plan, _ := opt.Plan(x)
		if !same(x, wasPlan) || shares(x, plan) {
			t.Fatalf("Plan(%s): shares memory, or makes it %s", toldPlan(wasPlan), toldPlan(x))
		}
	}
	// Of plans with which nothing is to be done, too.
	for _, text := range []string{"start s; stage s { green a; next u when d; } stage u { green b; during { x = t; } next s when e; }", "start s; stage s { green a; enter { y = x; x = t; } leave { run t; } next u when d; } stage u { green; next s when e; }"} {
		x := copied(resolved(t, street+text+" }"))
		if plan, e := opt.Plan(x); e != api.OK || !same(plan, x) || shares(x, plan) {
			t.Errorf("%s: %d, shares memory, or becomes %s", text, e, toldPlan(plan))
		}
	}
}

// P9.5, G2: what is answered hangs on the arguments alone: calls at the same time, and again, answer the same.
func TestNothingIsKept(t *testing.T) {
	r := rand.New(rand.NewSource(951))
	m := anyMaker(r)
	type call struct {
		e []api.Node
		l []api.Stmt
		k api.Known
		x api.Typed
	}
	calls := make([]call, 150)
	for i := range calls {
		calls[i] = call{m.expr(1+r.Intn(2), 12), m.list(3), m.known(), anyTyped(r)}
	}
	type answer struct {
		e      []api.Node
		l      []api.Stmt
		behind api.Known
		x      api.Typed
		lo, hi int32
	}
	ask := func(c call) answer {
		var a answer
		a.e, _ = opt.Fold(c.e, c.k)
		a.l, a.behind, _ = opt.Body(c.l, c.k)
		a.x, _ = opt.Plan(c.x)
		a.lo, a.hi, _ = opt.Range(c.e, c.k)
		return a
	}
	first := make([]answer, len(calls))
	for i, c := range calls {
		first[i] = ask(c)
	}
	lists := make([][]answer, 6)
	var wait sync.WaitGroup
	for w := range lists {
		wait.Go(func() {
			for i := range calls {
				lists[w] = append(lists[w], ask(calls[(i+25*w)%len(calls)]))
			}
		})
	}
	wait.Wait()
	for w, list := range lists {
		for i, a := range list {
			if b := first[(i+25*w)%len(calls)]; !same(a.e, b.e) || !same(a.l, b.l) || a.behind != b.behind || !same(a.x, b.x) || a.lo != b.lo || a.hi != b.hi {
				t.Fatalf("call %d of worker %d answers otherwise", i, w)
			}
		}
	}
}

// valueIn is an expression's value in a state of a scene.
func valueIn(t *testing.T, x api.Typed, s api.State, e []api.Node) int32 {
	t.Helper()
	w, f := sim.Value(x, s, e)
	if f != api.OK {
		t.Fatalf("Value(%s): %d in %+v", told(e), f, s)
	}
	return w
}

// P9.6: in every state in which what is known is so, the value lies in its range, and the folded expression has the same value.
func TestValues(t *testing.T) {
	t.Parallel()
	r := rand.New(rand.NewSource(96))
	for range 8000 {
		m := anyMaker(r)
		x, e, k := scene(m), m.expr(1+r.Intn(2), 1+r.Intn(20)), m.known()
		lo, hi, _ := opt.Range(e, k)
		folded, f := opt.Fold(e, k)
		if f != api.OK {
			t.Fatalf("%s: %d", told(e), f)
		}
		low, high, _ := opt.Range(folded, k)
		for range 6 {
			s := stateOf(m, k)
			w := valueIn(t, x, s, e)
			if w < lo || w > hi || w < low || w > high {
				t.Fatalf("%s with %s: %d, not in %d to %d, or %d to %d", told(e), toldKnown(k), w, lo, hi, low, high)
			}
			if o := valueIn(t, x, s, folded); o != w {
				t.Fatalf("%s with %s: %d, folded %s: %d in %+v", told(e), toldKnown(k), w, told(folded), o, s)
			}
		}
	}
}

// P9.6: of all small expressions, in all states over few words.
func TestAllSmallValues(t *testing.T) {
	t.Parallel()
	r := rand.New(rand.NewSource(961))
	m := &maker{r: r, groups: 1, dets: 1, vars: 2}
	x, k := scene(m), knowing(1, 3)
	var states []api.State
	for _, w := range []int32{least, least + 1, -1, 0, 1, 3, most} {
		s := stateOf(m, k)
		s.Vars[0], s.Elapsed = w, max(w, 0)
		states = append(states, s)
	}
	for _, types := range smallExprs(4) {
		for _, e := range slices.Concat(types[0], types[1]) {
			folded, _ := opt.Fold(e, k)
			lo, hi, _ := opt.Range(e, k)
			for _, s := range states {
				w := valueIn(t, x, s, e)
				if o := valueIn(t, x, s, folded); w != o || w < lo || w > hi {
					t.Fatalf("%s: %d, of %d to %d; folded %s: %d with %d", told(e), w, lo, hi, told(folded), o, s.Vars[0])
				}
			}
		}
	}
}

// P9.6, of statements: what a body does, and what is known behind it, is so in every state in which what is known ahead of it is so.
func TestBodiesDoTheSame(t *testing.T) {
	t.Parallel()
	r := rand.New(rand.NewSource(963))
	for range 3000 {
		m := anyMaker(r)
		list, green := m.list(3), uint64(r.Intn(8))
		k := steady(green)
		k.Has = r.Uint64() & 7
		for v := range m.vars {
			if k.Has>>v&1 == 1 {
				k.Vals[v] = r.Int31n(3)
			}
		}
		small, behind, _ := opt.Body(list, k)
		one := scene(m)
		other := copied(one)
		one.Stages[green].During, other.Stages[green].During = list, small
		for range 4 {
			s := stateOf(m, k)
			a, e := sim.Resume(one, s)
			b, f := sim.Resume(other, s)
			if e != api.OK || f != api.OK {
				t.Fatalf("%d, %d: %+v", e, f, s)
			}
			a.Tick(5)
			b.Tick(5)
			if !same(a.State(), b.State()) {
				t.Fatalf("%s does otherwise than %s in %+v", toldBody(small), toldBody(list), s)
			}
			for v, w := range a.State().Vars {
				if behind.Has>>v&1 == 1 && behind.Vals[v] != w {
					t.Fatalf("behind %s: variable %d is %d, told %s", toldBody(list), v, w, toldKnown(behind))
				}
			}
		}
	}
}

// P9.7: folding twice is folding once, and nothing grows.
func TestFoldTwice(t *testing.T) {
	t.Parallel()
	r := rand.New(rand.NewSource(97))
	for i := range 30000 {
		m := anyMaker(r)
		size := 1 + r.Intn(20)
		if i%20 == 0 {
			size = 200
		}
		e, k := m.expr(1+r.Intn(2), size), m.known()
		if tree.Nest(e) > api.MaxDepth {
			continue
		}
		once, _ := opt.Fold(e, k)
		twice, f := opt.Fold(once, k)
		if f != api.OK || !slices.Equal(once, twice) {
			t.Fatalf("%s, again %s, %d: %s with %s", told(once), told(twice), f, told(e), toldKnown(k))
		}
		if len(once) > len(e) || tree.Nest(once) > tree.Nest(e) {
			t.Fatalf("%s has %d nodes and a nest of %d, of %s", told(once), len(once), tree.Nest(once), told(e))
		}
	}
}

// P9.7: of all small expressions.
func TestFoldAllSmallTwice(t *testing.T) {
	t.Parallel()
	for _, types := range smallExprs(5) {
		for _, e := range slices.Concat(types[0], types[1]) {
			once, _ := opt.Fold(e, api.Known{})
			if twice, _ := opt.Fold(once, api.Known{}); !slices.Equal(once, twice) || len(once) > len(e) || tree.Nest(once) > tree.Nest(e) {
				t.Fatalf("%s: %s, again %s", told(e), told(once), told(twice))
			}
		}
	}
}

// P9.7: the same of Body, what is known behind it too.
func TestBodyTwice(t *testing.T) {
	t.Parallel()
	r := rand.New(rand.NewSource(971))
	for range 12000 {
		m := anyMaker(r)
		l, k := m.list(4), m.known()
		once, behind, _ := opt.Body(l, k)
		twice, again, f := opt.Body(once, k)
		if f != api.OK || !same(once, twice) || behind != again {
			t.Fatalf("%s, %s, again %s, %s, %d: %s with %s", toldBody(once), toldKnown(behind), toldBody(twice), toldKnown(again), f, toldBody(l), toldKnown(k))
		}
		if len(once) > len(l) || nodesOf(once) > nodesOf(l) {
			t.Fatalf("%s has %d statements, of %s", toldBody(once), len(once), toldBody(l))
		}
	}
}

func nodesOf(list []api.Stmt) int {
	count := 0
	for _, s := range list {
		count += len(s.Expr)
	}
	return count
}

// P9.7 to P9.9: of plans: sound, the same entries and states, twice is once, nothing grows; guards, and stages that are reached.
func TestPlans(t *testing.T) {
	t.Parallel()
	r := rand.New(rand.NewSource(98))
	seen := map[int]int{}
	for range 4000 {
		x := anyTyped(r)
		o, e := opt.Plan(x)
		if e != api.OK || !check.Sound(o) {
			t.Fatalf("%d of %s: %s", e, toldPlan(x), toldPlan(o))
		}
		if again, _ := opt.Plan(o); !same(o, again) {
			t.Fatalf("%s, again %s", toldPlan(o), toldPlan(again))
		}
		checkSmaller(t, x, o)
		checkGuards(t, o)
		checkSims(t, x, o, anyIns(r, 50), seen)
	}
	if len(seen) < 8 || seen[0] < 10000 || seen[1] < 4000 {
		t.Errorf("the plans get nowhere: %v", seen)
	}
}

func checkSmaller(t *testing.T, x, o api.Typed) {
	t.Helper()
	if len(o.Stages) > len(x.Stages) || !same(o.Tables, x.Tables) || !same(o.Dets, x.Dets) || !same(o.Timers, x.Timers) || !same(o.Counters, x.Counters) || !same(o.Vars, x.Vars) || o.Name != x.Name || o.Stages[o.Start].Id != x.Stages[x.Start].Id {
		t.Fatalf("%+v of %+v", o, x)
	}
	last := -1
	for _, s := range o.Stages {
		at := slices.IndexFunc(x.Stages, func(w api.TStage) bool { return w.Id == s.Id })
		w := x.Stages[at]
		if at <= last || s.Name != w.Name || s.Green != w.Green || len(s.Nexts) > len(w.Nexts) || len(s.Enter) > len(w.Enter) || len(s.During) > len(w.During) || len(s.Leave) > len(w.Leave) {
			t.Fatalf("%s of %s", toldPlan(o), toldPlan(x))
		}
		last = at
	}
}

func checkGuards(t *testing.T, o api.Typed) {
	t.Helper()
	for _, s := range o.Stages {
		for i, n := range s.Nexts {
			lo, hi, _ := opt.Range(n.When, api.Known{})
			if hi == 0 || lo == 1 && i < len(s.Nexts)-1 {
				t.Fatalf("next %d of stage %d: %s", i, s.Id, toldPlan(o))
			}
		}
	}
	if reached, e := safety.Reach(o); e != api.OK || slices.Contains(reached, false) {
		t.Fatalf("%v: %s", reached, toldPlan(o))
	}
}

func checkSims(t *testing.T, x, o api.Typed, ins []uint64, seen map[int]int) {
	t.Helper()
	a, _ := sim.New(x)
	b, _ := sim.New(o)
	var entries []api.Entry
	for i, in := range ins {
		p, q := a.Tick(in), b.Tick(in)
		if p != q || !same(a.State(), b.State()) {
			t.Fatalf("tick %d: %v, %+v and %v, %+v of %s, smaller %s", i, p, a.State(), q, b.State(), toldPlan(x), toldPlan(o))
		}
		seen[p.Stage]++
		entries = append(entries, p)
	}
	if list, e := sim.Run(o, ins); e != api.OK || !slices.Equal(list, entries) {
		t.Fatalf("Run: %v, %d, want %v", list, e, entries)
	}
}

// P9.10: what Check finds in what Plan answers.
func TestFindings(t *testing.T) {
	t.Parallel()
	r := rand.New(rand.NewSource(910))
	kept, traps := map[api.Errno]int{}, 0
	for range 5000 {
		x := anyTyped(r)
		for i := range x.Tables.Conflicts { // some moves are slow
			if r.Intn(4) == 0 {
				x.Tables.Conflicts[i].AB = 3600
			}
		}
		o, _ := opt.Plan(x)
		before, _ := safety.Check(x)
		if len(before) >= 64 {
			continue
		}
		old := byIds(x, before)
		after, e := safety.Check(o)
		if e != api.OK {
			t.Fatalf("%d: %s", e, toldPlan(o))
		}
		for _, f := range byIds(o, after) {
			if slices.Contains(old, f) {
				kept[f.Code]++
			} else if f.Code == api.ErrTrap || f.Code == api.ErrNever {
				traps++
			} else {
				t.Fatalf("%v is not in %v: %s of %s", f, old, toldPlan(o), toldPlan(x))
			}
		}
	}
	if traps < 100 || len(kept) != 8 {
		t.Errorf("%d new traps, kept: %v", traps, kept)
	}
}

// byIds tells findings with the Ids of their stages.
func byIds(x api.Typed, list []api.Finding) []api.Finding {
	list = slices.Clone(list)
	for i, f := range list {
		if f.Stage >= 0 {
			list[i].Stage = x.Stages[f.Stage].Id
		}
		if f.Code == api.ErrSlow {
			list[i].B = x.Stages[f.B].Id
		}
	}
	return list
}
