package vm_test

import (
	"fmt"
	"math/rand"
	"slices"
	"strings"
	"testing"

	"junction/api"
	"junction/opt"
	"junction/sim"
)

// allSeen asks whether enough of each thing has happened, for a run at random to tell anything of it.
func allSeen(t *testing.T, seen map[string]int, few int) {
	t.Helper()
	list := []string{"arrival", "leave", "shut gate", "no pick", "if jumps", "andjump jumps", "orjump jumps"}
	for word := range codes {
		list = append(list, word)
	}
	for _, what := range list {
		if seen[what] < few {
			t.Errorf("%s: %d alone", what, seen[what])
		}
	}
	for _, word := range []string{"if", "andjump", "orjump"} {
		if seen[word]-seen[word+" jumps"] < few {
			t.Errorf("%s goes on %d times alone", word, seen[word]-seen[word+" jumps"])
		}
	}
}

// P13.3, P13.5, P13.8: whole runs of wild images, from the beginning and from any state on, against the second machine: entries, states, counts; and what the counts are at most.
func TestRunsAtRandom(t *testing.T) {
	t.Parallel()
	r := rand.New(rand.NewSource(133))
	seen := map[string]int{}
	full := 0
	for n := range 2500 {
		m := anyWild(r)
		v, s := begun(t, m), modelStart(m)
		if n%2 == 0 {
			s = anyState(r, m)
			v = resumed(t, m, s)
		}
		for i, in := range anyIns(r, 30) {
			second, want := modelTick(m, s, in, seen)
			got := v.Tick(in)
			if got != want || !same(v.State(), second.s) {
				t.Fatalf("tick %d: %v, %+v, want %v, %+v from %+v of %s", i, got, v.State(), want, second.s, s, listed(m))
			}
			if v.Steps() != second.steps() || v.High() != second.high {
				t.Fatalf("tick %d: %d steps, %d high, want %d, %d from %+v of %s", i, v.Steps(), v.High(), second.steps(), second.high, s, listed(m))
			}
			if v.Steps() > len(m.Code) || v.High() > m.Depth || slices.Max(second.times) > 1 {
				t.Fatalf("tick %d: %d steps of %d, %d high of %d from %+v of %s", i, v.Steps(), len(m.Code), v.High(), m.Depth, s, listed(m))
			}
			s = second.s
			if !modelOk(m, s) || !isIn(t, m, s) {
				t.Fatalf("behind tick %d: %+v is not of %s", i, s, listed(m))
			}
			if v.High() == m.Depth {
				full++
			}
		}
	}
	allSeen(t, seen, 300)
	if full < 1000 {
		t.Errorf("only %d ticks with a stack as high as may be", full)
	}
}

// P13.8: all of an image's instructions in one tick, and a stack as high as any code can make it.
func TestMostSteps(t *testing.T) {
	t.Parallel()
	repeat := func(text string, count int) []api.Instr {
		return slices.Repeat([]api.Instr{instruction(text)}, count)
	}
	end := repeat("end", 1)
	const words = 32765
	m := api.Image{Name: "p", Vars: []int32{0}, Slots: []api.Slot{{Id: 0}, {Id: 1}}, Depth: words}
	m.Code = slices.Concat(end, repeat("small 1", words), repeat("store 0", words), repeat("pick 1", 1), end, end, end, end)
	m.Slots[0].Tick, m.Slots[0].Leave = 1, 2*words+2
	m.Slots[1].Enter, m.Slots[1].Tick, m.Slots[1].Leave = 2*words+3, 2*words+4, 2*words+5
	if len(m.Code) != api.MaxCode {
		t.Fatalf("%d instructions", len(m.Code))
	}
	v := begun(t, m)
	for i, want := range [][2]int{{0, 0}, {2*words + 3, words}, {2, 0}, {1, 0}} {
		if v.Tick(0); v.Steps() != want[0] || v.High() != want[1] {
			t.Errorf("tick %d: %d steps, %d high, want %v", i, v.Steps(), v.High(), want)
		}
	}
	// One slot alone: all of the code, but for the section Leave.
	one := api.Image{Name: "p", Timers: 1, Slots: make([]api.Slot, 1)}
	one.Code = slices.Concat(repeat("run 0", 40000), end, repeat("reset 0", 25532), end, end)
	one.Slots[0].Tick, one.Slots[0].Leave = 40001, 65534
	if len(one.Code) != api.MaxCode-1 {
		t.Fatalf("%d instructions", len(one.Code))
	}
	v = begun(t, one)
	v.Tick(0)
	if v.Tick(0); v.Steps() != api.MaxCode-2 || v.High() != 0 {
		t.Errorf("%d steps, %d high", v.Steps(), v.High())
	}
}

// anyPlan is a plan at random, often behind the optimizer, and its image.
func anyPlan(t *testing.T, r *rand.Rand) (api.Typed, api.Image) {
	t.Helper()
	x := anyTyped(r)
	if r.Intn(3) == 0 {
		var errno api.Errno
		if x, errno = opt.Plan(x); errno != api.OK {
			t.Fatalf("Plan: %d of %+v", errno, x)
		}
	}
	return x, generated(t, x)
}

// P13.9: a plan's image shows and keeps what the plan does, from the beginning on.
func TestPlansRun(t *testing.T) {
	t.Parallel()
	r := rand.New(rand.NewSource(139))
	steady, left := 0, 0
	for range 1500 {
		x, m := anyPlan(t, r)
		played, _ := sim.New(x)
		v := begun(t, m)
		ins := anyIns(r, 50)
		if !same(v.State(), played.State()) {
			t.Fatalf("at the beginning: %+v, want %+v of %+v", v.State(), played.State(), x)
		}
		stage := -1
		var list []api.Entry
		for i, in := range ins {
			got, want := v.Tick(in), played.Tick(in)
			if got != want || !same(v.State(), played.State()) {
				t.Fatalf("tick %d: %v, %+v, want %v, %+v of %+v", i, got, v.State(), want, played.State(), x)
			}
			if v.Steps() > len(m.Code) || v.High() > m.Depth {
				t.Fatalf("tick %d: %d steps, %d high of %+v", i, v.Steps(), v.High(), x)
			}
			list = append(list, got)
			if got.Stage != -1 {
				steady++
				if stage != -1 && stage != got.Stage {
					left++
				}
				stage = got.Stage
			}
		}
		if all := ran(t, m, ins); !slices.Equal(all, list) {
			t.Fatalf("%s, want %s of %+v", told(all), told(list), x)
		}
	}
	if steady < 20000 || left < 2000 {
		t.Errorf("%d steady ticks, %d moves", steady, left)
	}
}

// P13.9: the machine that is resumed in a state of sim's goes on as sim does, and the other way round; of each state both say the same.
func TestPlansResume(t *testing.T) {
	t.Parallel()
	r := rand.New(rand.NewSource(1390))
	seen := map[bool]int{}
	for range 1500 {
		x, m := anyPlan(t, r)
		s := anyState(r, m)
		if r.Intn(4) == 0 {
			s = spoilt(r, s)
		}
		ok := sim.StateOk(x, s)
		seen[ok]++
		if isIn(t, m, s) != ok {
			t.Fatalf("StateOk is %v of %+v in %+v", ok, s, x)
		}
		if !ok {
			continue
		}
		v := resumed(t, m, s)
		played, _ := sim.Resume(x, s)
		for i, in := range anyIns(r, 16) {
			got, want := v.Tick(in), played.Tick(in)
			if got != want || !same(v.State(), played.State()) {
				t.Fatalf("%d ticks behind: %v, %+v, want %v, %+v from %+v of %+v", i, got, v.State(), want, played.State(), s, x)
			}
			// Each goes on from what the other one has come to.
			if r.Intn(4) == 0 {
				state := v.State()
				v = resumed(t, m, played.State())
				var errno api.Errno
				if played, errno = sim.Resume(x, state); errno != api.OK {
					t.Fatalf("sim refuses %+v of %+v", state, x)
				}
			}
		}
	}
	if seen[true] < 1000 || seen[false] < 100 {
		t.Errorf("%v", seen)
	}
}

// P13.2: a machine that is resumed on the way of another one goes on as that one does.
func TestResumeOnTheWay(t *testing.T) {
	t.Parallel()
	r := rand.New(rand.NewSource(1320))
	for range 400 {
		m, ins := anyWild(r), anyIns(r, 24)
		v := begun(t, m)
		for i, in := range ins {
			w := resumed(t, m, v.State())
			if a, b := v.Tick(in), w.Tick(in); a != b || !same(v.State(), w.State()) || v.Steps() != w.Steps() || v.High() != w.High() {
				t.Fatalf("tick %d: %v, %v of %s", i, a, b, listed(m))
			}
			if r.Intn(3) == 0 {
				v = w
			}
		}
	}
}

// P13.10: bits of no detector are not seen.
func TestHighBits(t *testing.T) {
	t.Parallel()
	r := rand.New(rand.NewSource(1310))
	for range 600 {
		m, ins := anyWild(r), anyIns(r, 40)
		low := slices.Clone(ins)
		v, w := begun(t, m), begun(t, m)
		for i := range ins {
			low[i] &= 1<<len(m.Dets) - 1
			if a, b := v.Tick(ins[i]), w.Tick(low[i]); a != b || !same(v.State(), w.State()) || v.Steps() != w.Steps() {
				t.Fatalf("tick %d: %v with %x, %v with %x of %s", i, a, ins[i], b, low[i], listed(m))
			}
		}
		if a, b := ran(t, m, ins), ran(t, m, low); !slices.Equal(a, b) {
			t.Fatalf("%s with %x, %s with %x", told(a), ins, told(b), low)
		}
	}
	// The first bit that is no detector's: chapter 8's plan has one detector.
	m := generated(t, resolved(t, twoPlan))
	if got := told(ran(t, m, []uint64{0, 0, 0, 2, 2, ^uint64(1), 2})); got != "rr -1, gr 0, gr 0, gr 0, gr 0, gr 0, gr 0" {
		t.Errorf("bit 1 is seen: %s", got)
	}
	if got := told(ran(t, leastImage(), []uint64{^uint64(0), 1, 1 << 63})); got != " -1,  0,  0" {
		t.Errorf("no detectors: %s", got)
	}
}

// crossing is an image with tables in which nearly all conflict, and slots that ask for groups in conflict as well.
func crossing(r *rand.Rand) api.Image {
	m := anyWild(r)
	if r.Intn(2) == 0 {
		return m
	}
	for i := range m.Slots {
		m.Slots[i].Green = r.Uint64() & (1<<len(m.Tables.Groups) - 1)
	}
	return m
}

// P13.11: whatever the code does, the pictures alone are safe.
func TestSafe(t *testing.T) {
	t.Parallel()
	r := rand.New(rand.NewSource(1311))
	letters := map[rune]int{}
	for range 3000 {
		m := crossing(r)
		var pictures []string
		for _, e := range ran(t, m, anyIns(r, 80)) {
			pictures = append(pictures, e.Heads)
		}
		if what := danger(m.Tables, pictures); what != "" {
			t.Fatalf("%s: %v of %s", what, pictures, listed(m))
		}
		for _, letter := range strings.Join(pictures, "") {
			letters[letter]++
		}
	}
	if min(letters['r'], letters['l'], letters['g'], letters['a']) < 4000 {
		t.Errorf("too few of a kind: %v", letters)
	}
}

// P13.11: code that picks another slot at each tick, ahead of which every gate is asked: no green is too short, no intergreen missed.
func TestHastyCode(t *testing.T) {
	t.Parallel()
	m := api.Image{Name: "p", Slots: []api.Slot{{Id: 0, Green: 1}, {Id: 1, Green: 2}, {Id: 2, Green: 4}}}
	for i := range 3 {
		m.Tables.Groups = append(m.Tables.Groups, api.Group{Name: fmt.Sprint("g", i), Sort: 1, Min: 2 + i, Amber: i, Lead: 2 - i})
	}
	m.Tables.Conflicts = []api.Conflict{{A: 0, B: 1, AB: 3, BA: 1}, {A: 0, B: 2, AB: 0, BA: 5}, {A: 1, B: 2, AB: 4, BA: 2}}
	m = put(m, "end; pick 1; end; end; pick 2; end; end; pick 0; end")
	var pictures []string
	for _, e := range ran(t, m, make([]uint64, 300)) {
		pictures = append(pictures, e.Heads)
	}
	if what := danger(m.Tables, pictures); what != "" {
		t.Errorf("%s: %v", what, pictures)
	}
	for _, letters := range []string{"grr", "rgr", "rrg"} {
		if !slices.Contains(pictures, letters) {
			t.Errorf("no %s in %v", letters, pictures)
		}
	}
}

// The pictures that danger refuses: else the tests above would tell nothing.
func TestDanger(t *testing.T) {
	t.Parallel()
	x := api.Tables{Groups: []api.Group{{Min: 2, Amber: 1}, {Min: 2, Amber: 1}}, Conflicts: []api.Conflict{{A: 0, B: 1, AB: 3, BA: 2}}}
	for i, c := range []struct {
		a, b string
		safe bool
	}{
		{"r", "r", true},
		{"rrggarrrr", "rrrrrrrgg", true},
		{"rrggarrrr", "rrrrrrggg", false}, // 3 from 0 to 1
		{"rrrrrrrg", "rrrggarr", true},
		{"rrrrrrg", "rrrggar", false}, // 2 from 1 to 0
		{"rggar", "rrrrr", false},     // as if 1 had been green at picture -1
		{"g", "r", false},
		{"rrrg", "rrrg", false},
		{"rrrgarr", "rrrrrrr", false}, // Min
		{"rrrggrr", "rrrrrrr", false}, // Amber
		{"rrrggaa", "rrrrrrr", false},
		{"rrrlggar", "rrrrrrrr", false}, // Lead
		{"rrrg?", "rrrrr", false},
	} {
		var pictures []string
		for k := range c.a {
			pictures = append(pictures, c.a[k:k+1]+c.b[k:k+1])
		}
		if what := danger(x, pictures); (what == "") != c.safe {
			t.Errorf("row %d: %q", i, what)
		}
	}
}
