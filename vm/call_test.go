package vm_test

import (
	"bytes"
	"math/rand"
	"reflect"
	"slices"
	"strings"
	"sync"
	"testing"
	"time"

	"junction/api"
	"junction/load"
	"junction/rom"
	"junction/vm"
)

// P13.4, G3: a state is new memory: writing into it is not seen, and no tick changes it.
func TestStateIsNew(t *testing.T) {
	t.Parallel()
	v, w := resumed(t, things(), steadyState()), resumed(t, things(), steadyState())
	for i := range 12 {
		first, second := v.State(), v.State()
		if shares(first, second) {
			t.Fatalf("tick %d: two answers share memory", i)
		}
		kept := copied(first)
		ruin(second)
		if a, b := v.Tick(2), w.Tick(2); a != b {
			t.Errorf("tick %d: %v behind a ruined state, %v else", i, a, b)
		}
		if !same(first, kept) {
			t.Errorf("tick %d: a state has changed: %+v, was %+v", i, first, kept)
		}
		if !same(v.State(), w.State()) {
			t.Errorf("tick %d: %+v, want %+v", i, v.State(), w.State())
		}
	}
	start := begun(t, things())
	ruin(start.State())
	if !same(start.State(), modelStart(things())) {
		t.Errorf("the state at the beginning was written to: %+v", start.State())
	}
}

// P13.2, G3: Resume keeps nothing of the state, and changes nothing of it.
func TestResumeKeepsNothing(t *testing.T) {
	t.Parallel()
	s := copied(steadyState())
	v, w := resumed(t, things(), s), resumed(t, things(), steadyState())
	if shares(s, v.State()) {
		t.Error("State answers what was handed in")
	}
	for i := range 12 {
		if a, b := v.Tick(1), w.Tick(1); a != b || !same(v.State(), w.State()) {
			t.Errorf("tick %d: %v, want %v", i, a, b)
		}
		if i == 0 && !same(s, steadyState()) {
			t.Errorf("a tick changes what was handed in: %+v", s)
		}
		ruin(s)
	}
}

// P13.1, P13.2, G2, G3: the image is not changed, and may be written to; State, Fork, Steps and High may be asked, other machines may run: nothing of that is seen.
func TestNothingElseIsSeen(t *testing.T) {
	t.Parallel()
	r := rand.New(rand.NewSource(131))
	for range 400 {
		m, ins := anyWild(r), anyIns(r, 30)
		given := copied(m)
		quiet, loud := begun(t, m), begun(t, given)
		other := resumed(t, given, loud.State())
		if !same(given, m) {
			t.Fatalf("the image is changed: %s, was %s", listed(given), listed(m))
		}
		ruin(given)
		for i, in := range ins {
			want := quiet.Tick(in)
			switch r.Intn(4) {
			case 0:
				ruin(loud.State())
			case 1:
				loud.Fork().Tick(r.Uint64())
			case 2:
				begun(t, m).Tick(^in)
			}
			if a, b := loud.Tick(in), other.Tick(in); a != want || b != want || !same(loud.State(), quiet.State()) || !same(other.State(), quiet.State()) {
				t.Fatalf("tick %d: %v, %v, want %v of %s", i, a, b, want, listed(m))
			}
			if loud.Steps() != quiet.Steps() || loud.High() != quiet.High() {
				t.Fatalf("tick %d: %d steps, %d high, want %d, %d", i, loud.Steps(), loud.High(), quiet.Steps(), quiet.High())
			}
		}
	}
}

// P13.6: forks go their own ways; so do forks of forks. P13.5: one has the counts of the machine that it was forked from.
func TestFork(t *testing.T) {
	t.Parallel()
	m := generated(t, resolved(t, twoPlan))
	first := begun(t, m)
	for range 3 {
		first.Tick(0)
	}
	second := first.Fork()
	if second == first || !same(second.State(), first.State()) || shares(first.State(), second.State()) {
		t.Fatalf("%+v, %+v", first.State(), second.State())
	}
	if first.Steps() == 0 || first.High() == 0 || second.Steps() != first.Steps() || second.High() != first.High() {
		t.Errorf("%d steps, %d high, want %d, %d", second.Steps(), second.High(), first.Steps(), first.High())
	}
	third := second.Fork()
	type way struct {
		v   *vm.Machine
		ins []uint64
		in  func(i int) uint64
	}
	// One is pushed at times, one always, one never; they take turns.
	ways := []*way{
		{first, []uint64{0, 0, 0}, func(i int) uint64 { return uint64(i / 7 % 2) }},
		{second, []uint64{0, 0, 0}, func(int) uint64 { return 1 }},
		{third, []uint64{0, 0, 0}, func(int) uint64 { return 0 }},
	}
	for i := range 30 {
		for _, w := range ways {
			w.ins = append(w.ins, w.in(i))
			got := w.v.Tick(w.in(i))
			lone := begun(t, m)
			var want api.Entry
			for _, in := range w.ins {
				want = lone.Tick(in)
			}
			if got != want || !same(w.v.State(), lone.State()) || w.v.Steps() != lone.Steps() || w.v.High() != lone.High() {
				t.Fatalf("%v: %v, %+v, want %v, %+v", w.ins, got, w.v.State(), want, lone.State())
			}
		}
	}
	// A fork's state and counts are those of the tick at which it was made, whatever has become of the first.
	before, steps := first.State(), first.Steps()
	fork := first.Fork()
	for range 9 {
		first.Tick(1)
	}
	if !same(fork.State(), before) || fork.Steps() != steps {
		t.Errorf("%+v, want %+v", fork.State(), before)
	}
}

// P13.5: asking twice is no tick; the counts are those of the last tick alone.
func TestCounts(t *testing.T) {
	t.Parallel()
	v := begun(t, generated(t, resolved(t, smallPlan)))
	for i := range 40 {
		v.Tick(uint64(i) % 4)
		steps, high := v.Steps(), v.High()
		v.State()
		if v.Steps() != steps || v.High() != high {
			t.Errorf("tick %d: the counts have changed", i)
		}
		if moving := v.State().Target != -1; i < 10 && (!moving || steps != 0 || high != 0) {
			t.Errorf("tick %d: %d steps, %d high in a move", i, steps, high)
		}
	}
	w := begun(t, exampleTwo())
	for i, want := range [][2]int{{0, 0}, {4, 1}, {4, 1}, {0, 0}, {2, 0}, {1, 0}} {
		if w.Tick(0); w.Steps() != want[0] || w.High() != want[1] {
			t.Errorf("tick %d: %d steps, %d high, want %v", i, w.Steps(), w.High(), want)
		}
	}
}

// P13.6, G2: machines that run at the same time don't see each other, forks least of all: not what they keep, nor what is on their stacks.
func TestAtTheSameTime(t *testing.T) {
	t.Parallel()
	// Each tick counts if the detector is on, and adds the counter up so many times.
	const words = 3000
	busy := api.Image{Name: "p", Dets: []api.Det{{Name: "d"}}, Counters: 1, Vars: []int32{0}, Slots: make([]api.Slot, 1), Depth: words}
	busy = put(busy, "end; det 0, if 4, count 0, "+strings.Repeat("counter 0, ", words)+strings.Repeat("add, ", words-1)+"store 0, end; end")
	for _, m := range []api.Image{busy, generated(t, resolved(t, smallPlan))} {
		first := begun(t, m)
		for range 12 {
			first.Tick(1)
		}
		var wait sync.WaitGroup
		for i := range 8 {
			v, lone := first.Fork(), resumed(t, m, first.State())
			wait.Go(func() {
				for _, in := range anyIns(rand.New(rand.NewSource(int64(i))), 200) {
					if a, b := v.Tick(in), lone.Tick(in); a != b || !same(v.State(), lone.State()) {
						t.Errorf("fork %d: %v, %+v, want %v, %+v", i, a, v.State(), b, lone.State())
						return
					}
				}
			})
		}
		wait.Wait()
	}
}

// P13.7, G3: Run changes nothing of what it is given, and what it answers is new memory.
func TestRunIsNew(t *testing.T) {
	t.Parallel()
	b, ins := encoded(t, things()), []uint64{0, 1, 0, 3}
	kept := bytes.Clone(b)
	list, _ := vm.Run(b, ins)
	again, _ := vm.Run(b, ins)
	if !bytes.Equal(b, kept) || !slices.Equal(ins, []uint64{0, 1, 0, 3}) {
		t.Errorf("%x, %v", b, ins)
	}
	clear(b)
	clear(ins)
	full := list[:cap(list)]
	for i := range full {
		full[i] = api.Entry{Heads: "x"}
	}
	if told(again) != "rrr -1, rrr -1, rgr 255, rgr 255" {
		t.Errorf("%s", told(again))
	}
}

// calls makes all of them, and tells what they answer.
func calls(m api.Image, s api.State, b []byte, ins []uint64) []any {
	v, one := vm.New(m)
	w, two := vm.Resume(m, s)
	list, three := vm.Run(b, ins)
	all := []any{v != nil, one, w != nil, two, len(list), three, list}
	for _, z := range []*vm.Machine{v, w} {
		if z == nil {
			continue
		}
		for _, in := range ins {
			all = append(all, z.Tick(in), z.Steps(), z.High(), z.Fork().Tick(in), z.State())
		}
	}
	return all
}

// wildThings don't fit one another, or just in one thing, or do.
func wildThings(r *rand.Rand) (api.Image, api.State, []byte, []uint64) {
	m := anyWild(r)
	s := anyState(r, m)
	for range pick(r, 0, 1, 1, 3) {
		switch r.Intn(5) {
		case 0, 1:
			m = spoilt(r, m)
		case 2:
			s = pick(r, api.State{}, anyState(r, anyWild(r)))
		default:
			s = spoilt(r, s)
		}
	}
	b, errno := rom.Encode(m)
	if errno != api.OK {
		b = make([]byte, r.Intn(100))
		r.Read(b)
	}
	return m, s, b, anyIns(r, r.Intn(9))
}

// G1 to G3, G5: whatever is given, no call panics, keeps or changes anything; a refusal has nothing beside it.
func TestGarbage(t *testing.T) {
	t.Parallel()
	seen := map[[3]bool]int{}
	for seed := range int64(4000) {
		// Of one seed come the same things, in new memory.
		m, s, b, ins := wildThings(rand.New(rand.NewSource(seed)))
		m2, s2, b2, ins2 := wildThings(rand.New(rand.NewSource(seed)))
		first := calls(m, s, b, ins)
		if !reflect.DeepEqual([]any{m, s, b, ins}, []any{m2, s2, b2, ins2}) {
			t.Fatalf("changed: %s, %+v, %x, %x", listed(m), s, b, ins)
		}
		if again := calls(m2, s2, b2, ins2); !reflect.DeepEqual(first, again) {
			t.Fatalf("%v, then %v", first, again)
		}
		fault, ok := load.Verify(m), false
		if isFine(m) {
			ok = modelOk(m, s)
		}
		_, bad := load.Load(b)
		seen[[3]bool{fault == api.Fault{}, ok, bad == api.Fault{}}]++
		want := []any{fault == api.Fault{}, fault, ok, fault, 0, bad}
		if isFine(m) && !ok {
			want[3] = api.Fault{Code: api.ErrState}
		}
		if bad == (api.Fault{}) {
			want[4] = len(ins)
		}
		if !reflect.DeepEqual(first[:6], want) {
			t.Fatalf("%v, want %v: %s, %+v", first[:6], want, listed(m), s)
		}
	}
	for _, kind := range [][3]bool{{false, false, false}, {true, false, true}, {true, true, true}} {
		if seen[kind] < 300 {
			t.Errorf("too few of a kind: %v", seen)
		}
	}
}

// G1: a machine that nothing has been put in has no image; its methods answer all the same.
func TestZeroMachine(t *testing.T) {
	t.Parallel()
	var v vm.Machine
	for range 5 {
		v.Tick(^uint64(0))
		v.Fork().Tick(1)
		v.State()
		if v.Steps() != 0 || v.High() != 0 {
			t.Errorf("%d steps, %d high", v.Steps(), v.High())
		}
	}
}

// G4: nil and empty lists count as the same.
func TestNilAndEmpty(t *testing.T) {
	t.Parallel()
	m := leastImage()
	n := m
	n.Dets, n.Vars, n.Pool, n.Tables = []api.Det{}, []int32{}, []int32{}, api.Tables{Groups: []api.Group{}, Conflicts: []api.Conflict{}}
	v, w := begun(t, m), begun(t, n)
	for i := range 4 {
		if a, b := v.Tick(1), w.Tick(1); a != b || !same(v.State(), w.State()) {
			t.Errorf("tick %d: %v, %v", i, a, b)
		}
	}
}

// G1: images at their limits over many ticks, and what is far above all limits, are through soon.
func TestLarge(t *testing.T) {
	t.Parallel()
	began := time.Now()
	const words = 30000
	m := api.Image{Name: "p", Vars: []int32{0}, Slots: make([]api.Slot, 1), Depth: words}
	m.Code = slices.Concat([]api.Instr{instruction("end")}, slices.Repeat([]api.Instr{instruction("var 0")}, words), slices.Repeat([]api.Instr{instruction("add")}, words-1), []api.Instr{instruction("store 0"), instruction("end"), instruction("end")})
	m.Slots[0].Tick, m.Slots[0].Leave = 1, len(m.Code)-1
	if list := ran(t, m, make([]uint64, 100)); list[99].Stage != 0 {
		t.Errorf("%v", list[99])
	}
	if list := ran(t, things(), make([]uint64, 200000)); len(list) != 200000 {
		t.Errorf("%d entries", len(list))
	}
	long := things()
	long.Code = make([]api.Instr, 1<<20)
	if _, f := vm.New(long); f != at(api.ErrRom, 0) {
		t.Errorf("New: %v", f)
	}
	s := begun(t, things()).State()
	s.Vars = make([]int32, 1<<20)
	if _, f := vm.Resume(things(), s); f.Code != api.ErrState {
		t.Errorf("Resume: %v", f)
	}
	if took := time.Since(began); took > 20*time.Second {
		t.Errorf("it took %v", took)
	}
}
