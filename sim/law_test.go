package sim_test

import (
	"fmt"
	"math/rand"
	"slices"
	"strings"
	"sync"
	"testing"

	"junction/api"
	"junction/check"
	"junction/sim"
)

// allSeen asks whether enough of each thing has happened, for a run at random to tell anything of it.
func allSeen(t *testing.T, seen map[string]int, least int) {
	t.Helper()
	for _, what := range []string{"arrival", "leave", "shut gate", "no next", "else", "set", "reset", "zero", "run", "stop", "count", "clear"} {
		if seen[what] < least {
			t.Errorf("%s: %d alone", what, seen[what])
		}
	}
}

// P8.1 to P8.4, P8.8: whole runs at random against the second way, states and entries; every state is of the plan.
func TestRunsAtRandom(t *testing.T) {
	t.Parallel()
	r := rand.New(rand.NewSource(83))
	seen := map[string]int{}
	for range 1500 {
		x := anyTyped(r)
		if !check.Sound(x) {
			t.Fatalf("not sound: %+v", x)
		}
		s, y := begun(t, x), modelStart(x)
		if !same(s.State(), y) {
			t.Fatalf("%+v, want %+v at the beginning of %+v", s.State(), y, x)
		}
		for i, in := range anyIns(r, 40) {
			var want api.Entry
			y, want = modelTick(x, y, in, seen)
			if got := s.Tick(in); got != want || !same(s.State(), y) {
				t.Fatalf("tick %d: %v, %+v, want %v, %+v of %+v", i, got, s.State(), want, y, x)
			}
			if !sim.StateOk(x, y) {
				t.Fatalf("behind tick %d: %+v is not of %+v", i, y, x)
			}
		}
	}
	allSeen(t, seen, 300)
}

// P8.2, P8.3, P8.8: from any state of the plan on, at random, against the second way.
func TestResumeAtRandom(t *testing.T) {
	t.Parallel()
	r := rand.New(rand.NewSource(82))
	seen := map[string]int{}
	for range 2500 {
		x := anyTyped(r)
		y := anyState(r, x)
		s := resumed(t, x, y)
		for i, in := range anyIns(r, 10) {
			if !sim.StateOk(x, y) || !modelOk(x, y) {
				t.Fatalf("%d ticks behind: %+v is not of %+v", i, y, x)
			}
			was := y
			var want api.Entry
			y, want = modelTick(x, y, in, seen)
			if got := s.Tick(in); got != want || !same(s.State(), y) {
				t.Fatalf("%d ticks behind: %v, %+v, want %v, %+v from %+v of %+v", i, got, s.State(), want, y, was, x)
			}
		}
	}
	allSeen(t, seen, 100)
}

// P8.2: a Sim that is resumed in another one's state goes on as that one does, from each tick of a run.
func TestResumeOnTheWay(t *testing.T) {
	t.Parallel()
	r := rand.New(rand.NewSource(822))
	for range 250 {
		x, ins := anyTyped(r), anyIns(r, 24)
		s := begun(t, x)
		for at := range ins {
			o := resumed(t, x, s.State())
			for _, in := range ins[at:min(at+8, len(ins))] {
				o.Tick(in)
			}
			whole := begun(t, x)
			for _, in := range ins[:min(at+8, len(ins))] {
				whole.Tick(in)
			}
			if !same(o.State(), whole.State()) {
				t.Fatalf("from tick %d: %+v, want %+v of %+v", at, o.State(), whole.State(), x)
			}
			s.Tick(ins[at])
		}
	}
}

// P8.9: bits of no detector are not seen.
func TestHighBits(t *testing.T) {
	t.Parallel()
	r := rand.New(rand.NewSource(89))
	for range 800 {
		x, ins := anyTyped(r), anyIns(r, 40)
		low := slices.Clone(ins)
		s, o := begun(t, x), begun(t, x)
		for i := range ins {
			low[i] &= 1<<len(x.Dets) - 1
			if a, b := s.Tick(ins[i]), o.Tick(low[i]); a != b || !same(s.State(), o.State()) {
				t.Fatalf("tick %d: %v with %x, %v with %x of %+v", i, a, ins[i], b, low[i], x)
			}
		}
		a, _ := sim.Run(x, ins)
		if b, _ := sim.Run(x, low); !slices.Equal(a, b) {
			t.Fatalf("%s with %x, %s with %x", told(a), ins, told(b), low)
		}
	}
	// The first bit that is no detector's, and the last that is one's.
	x := resolved(t, twoPlan)
	a, _ := sim.Run(x, []uint64{0, 0, 0, 2, 2, 2, 2})
	if told(a) != "rr -1, gr 0, gr 0, gr 0, gr 0, gr 0, gr 0" {
		t.Errorf("bit 1 is seen: %s", told(a))
	}
}

// renamed is a plan with other names throughout.
func renamed(x api.Typed) api.Typed {
	x = copied(x)
	x.Name = "other"
	name := func(text *string) { *text = "n" + strings.ToUpper(*text) }
	for i := range x.Tables.Groups {
		name(&x.Tables.Groups[i].Name)
	}
	for i := range x.Dets {
		name(&x.Dets[i].Name)
	}
	for i := range x.Timers {
		name(&x.Timers[i])
	}
	for i := range x.Counters {
		name(&x.Counters[i])
	}
	for i := range x.Vars {
		name(&x.Vars[i].Name)
	}
	for i := range x.Stages {
		name(&x.Stages[i].Name)
	}
	return x
}

// P8.10: names are not seen.
func TestNames(t *testing.T) {
	t.Parallel()
	r := rand.New(rand.NewSource(810))
	for range 800 {
		x, ins := anyTyped(r), anyIns(r, 40)
		s, o := begun(t, x), begun(t, renamed(x))
		for i, in := range ins {
			if a, b := s.Tick(in), o.Tick(in); a != b || !same(s.State(), o.State()) {
				t.Fatalf("tick %d: %v, %v of %+v", i, a, b, x)
			}
		}
	}
}

// P8.10: the plan may be written to, State and Fork may be asked, other Sims may run: nothing of that is seen. G3: the plan is not changed.
func TestNothingElseIsSeen(t *testing.T) {
	t.Parallel()
	r := rand.New(rand.NewSource(8100))
	for range 800 {
		x, ins := anyTyped(r), anyIns(r, 40)
		quiet := begun(t, x)
		given := copied(x)
		loud := begun(t, given)
		var o *sim.Sim
		if at := r.Intn(20); at > 0 { // one that was resumed, of a plan that is written to as well
			o = begun(t, x)
			for _, in := range ins[:at] {
				o.Tick(in)
			}
			given := copied(x)
			o = resumed(t, given, o.State())
			ruin(given)
			for _, in := range ins[at:] {
				o.Tick(in)
			}
		}
		if !same(given, x) {
			t.Fatalf("New changes the plan: %+v, was %+v", given, x)
		}
		ruin(given)
		for i, in := range ins {
			want := quiet.Tick(in)
			switch r.Intn(4) {
			case 0:
				ruin(loud.State())
			case 1:
				loud.Fork().Tick(r.Uint64())
			case 2:
				begun(t, x).Tick(^in)
			}
			if got := loud.Tick(in); got != want || !same(loud.State(), quiet.State()) {
				t.Fatalf("tick %d: %v, %+v, want %v, %+v of %+v", i, got, loud.State(), want, quiet.State(), x)
			}
		}
		if o != nil && !same(o.State(), quiet.State()) {
			t.Fatalf("resumed: %+v, want %+v of %+v", o.State(), quiet.State(), x)
		}
	}
}

// P8.5, P8.10: Sims that run at the same time don't see each other, forks least of all.
func TestAtTheSameTime(t *testing.T) {
	x := resolved(t, smallPlan)
	ins := anyIns(rand.New(rand.NewSource(85)), 300)
	want, _ := sim.Run(x, ins)
	first := begun(t, x)
	first.Tick(ins[0])
	var sims []*sim.Sim
	for range 8 {
		sims = append(sims, first.Fork())
	}
	lists := make([][]api.Entry, len(sims))
	var wait sync.WaitGroup
	for i, s := range sims {
		wait.Go(func() {
			for _, in := range ins[1:] {
				lists[i] = append(lists[i], s.Tick(in))
				s.State()
			}
		})
	}
	wait.Wait()
	for i, list := range lists {
		if !slices.Equal(list, want[1:]) {
			t.Errorf("fork %d: %s, want %s", i, told(list), told(want[1:]))
		}
	}
}

// shown is the picture in which just the groups of the mask are green.
func shown(groups int, green uint64) string {
	text := ""
	for g := range groups {
		text += string("rg"[green>>g&1])
	}
	return text
}

// P8.11, P8.12: in each tick with a stage just its groups are green; the first entry; a stage is left by its nexts alone.
func TestEntries(t *testing.T) {
	t.Parallel()
	r := rand.New(rand.NewSource(811))
	steady, left := 0, 0
	for range 2000 {
		x := anyTyped(r)
		list, e := sim.Run(x, anyIns(r, 60))
		if e != api.OK {
			t.Fatalf("%d of %+v", e, x)
		}
		groups := len(x.Tables.Groups)
		if list[0] != (api.Entry{Heads: strings.Repeat("r", groups), Stage: -1}) {
			t.Fatalf("the first entry: %v", list[0])
		}
		last := -1
		for i, entry := range list {
			if entry.Stage == -1 {
				continue
			}
			at := slices.IndexFunc(x.Stages, func(s api.TStage) bool { return s.Id == entry.Stage })
			if at < 0 || entry.Heads != shown(groups, x.Stages[at].Green) {
				t.Fatalf("tick %d: %v of %+v", i, entry, x)
			}
			steady++
			if last >= 0 && last != at {
				left++
				if !slices.ContainsFunc(x.Stages[last].Nexts, func(n api.TNext) bool { return n.To == at }) {
					t.Fatalf("tick %d: no next from %d to %d: %s of %+v", i, last, at, told(list), x)
				}
			}
			last = at
		}
	}
	if steady < 40000 || left < 4000 {
		t.Errorf("%d steady ticks, %d moves", steady, left)
	}
}

// P8.12: of plans in which each stage has another one next, a circle is gone round and nothing is left out.
func TestCircle(t *testing.T) {
	for _, count := range []int{2, 3, 7} {
		x := api.Typed{Name: "p"}
		for i := range count {
			x.Stages = append(x.Stages, api.TStage{Name: fmt.Sprintf("s%d", i), Id: 3 * i, Nexts: []api.TNext{{To: (i + 1) % count, When: leaf(api.OpBool, 1)}}})
		}
		list, _ := sim.Run(x, make([]uint64, 30))
		for i, e := range list[1:] {
			if e.Stage != i%count*3 {
				t.Errorf("%d stages, tick %d: %v", count, i+1, e)
			}
		}
	}
}
