package sim_test

import (
	"fmt"
	"math/rand"
	"reflect"
	"slices"
	"testing"
	"time"

	"junction/api"
	"junction/check"
	"junction/sim"
)

// calls makes all of them, and tells what they answer.
func calls(x api.Typed, y api.State, e []api.Node, ins []uint64) []any {
	s, one := sim.New(x)
	o, two := sim.Resume(x, y)
	list, three := sim.Run(x, ins)
	v, four := sim.Value(x, y, e)
	all := []any{s != nil, one, o != nil, two, len(list), three, v, four, sim.StateOk(x, y), list}
	for _, z := range []*sim.Sim{s, o} {
		if z == nil {
			continue
		}
		for _, in := range ins {
			all = append(all, z.Tick(in), z.Fork().Tick(in), z.State())
		}
	}
	return all
}

// wildThings don't fit one another, or just in one thing, or do.
func wildThings(r *rand.Rand) (api.Typed, api.State, []api.Node, []uint64) {
	x := anyTyped(r)
	y := anyState(r, x)
	e := (&planner{r: r, x: x}).expr(1+r.Intn(2), 1+r.Intn(6))
	for range pick(r, 0, 1, 1, 3) {
		switch r.Intn(5) {
		case 0:
			x = spoilt(r, x)
		case 1:
			e = spoilt(r, e)
		case 2:
			y = pick(r, api.State{}, anyState(r, anyTyped(r)))
		default:
			y = spoilt(r, y)
		}
	}
	return x, y, e, anyIns(r, r.Intn(9))
}

// G1 to G3, G5: whatever is given, no call panics, keeps or changes anything; a refusal has nothing beside it.
func TestGarbage(t *testing.T) {
	t.Parallel()
	seen := map[[3]bool]int{}
	for seed := range int64(6000) {
		// Of one seed come the same things, in new memory.
		x, y, e, ins := wildThings(rand.New(rand.NewSource(seed)))
		x2, y2, e2, ins2 := wildThings(rand.New(rand.NewSource(seed)))
		first := calls(x, y, e, ins)
		if !reflect.DeepEqual([]any{x, y, e, ins}, []any{x2, y2, e2, ins2}) {
			t.Fatalf("changed: %+v, %+v, %v, %x\nwas %+v, %+v, %v, %x", x, y, e, ins, x2, y2, e2, ins2)
		}
		if again := calls(x2, y2, e2, ins2); !reflect.DeepEqual(first, again) {
			t.Fatalf("%v, then %v", first, again)
		}
		sound, ok := check.Sound(x), modelOk(x, y)
		expr := ok && (check.SoundExpr(x, e, api.TyInt) || check.SoundExpr(x, e, api.TyBool))
		seen[[3]bool{sound, ok, expr}]++
		want := []any{false, api.ErrTyped, false, api.ErrTyped, 0, api.ErrTyped, int32(0), api.ErrTyped, false}
		if sound {
			want = []any{true, api.OK, false, api.ErrState, len(ins), api.OK, int32(0), api.ErrState, false}
		}
		if ok {
			want[2], want[3], want[7], want[8] = true, api.OK, api.ErrExpr, true
		}
		if expr {
			want[6], want[7] = (&model{x: x, s: y}).value(e), api.OK
		}
		if !reflect.DeepEqual(first[:9], want) {
			t.Fatalf("%v, want %v: %+v, %+v, %v", first[:9], want, x, y, e)
		}
	}
	for _, kind := range [][3]bool{{false, false, false}, {true, false, false}, {true, true, false}, {true, true, true}} {
		if seen[kind] < 300 {
			t.Errorf("too few of a kind: %v", seen)
		}
	}
}

// P8.8: states with one thing changed, at random, against the second way.
func TestStateOkAtRandom(t *testing.T) {
	t.Parallel()
	r := rand.New(rand.NewSource(88))
	good, bad := 0, 0
	for range 1000 {
		x := anyTyped(r)
		y := pick(r, anyState(r, x), modelStart(x))
		for range 16 {
			z := spoilt(r, y)
			got := sim.StateOk(x, z)
			if got != modelOk(x, z) {
				t.Fatalf("%v: %+v, was %+v in %+v", got, z, y, x)
			}
			s, e := sim.Resume(x, z)
			if got != (e == api.OK) || got != (s != nil) || !got && e != api.ErrState {
				t.Fatalf("%v, but Resume answers %d: %+v", got, e, z)
			}
			if got {
				good++
			} else {
				bad++
			}
		}
	}
	if good < 3000 || bad < 3000 {
		t.Errorf("%d good, %d bad", good, bad)
	}
}

// G1: a Sim that nothing has been put in has no plan; its methods answer all the same.
func TestZeroSim(t *testing.T) {
	var s sim.Sim
	for range 5 {
		s.Tick(^uint64(0))
		s.Fork().Tick(1)
		s.State()
	}
}

// G3: what Run answers is new memory.
func TestRunIsNew(t *testing.T) {
	x, ins := resolved(t, twoPlan), []uint64{0, 1, 0}
	list, _ := sim.Run(x, ins)
	again, _ := sim.Run(x, ins)
	full := list[:cap(list)]
	for i := range full {
		full[i] = api.Entry{Heads: "x"}
	}
	if told(again) != "rr -1, gr 0, gr 0" || !slices.Equal(ins, []uint64{0, 1, 0}) {
		t.Errorf("%s of %v", told(again), ins)
	}
}

// crowded has as much of everything as may be: its first stages have no lists, and the others all that there are.
func crowded() api.Typed {
	x := api.Typed{Name: "p", Vars: []api.Var{{Name: "x"}}}
	for a := range 64 {
		x.Tables.Groups = append(x.Tables.Groups, api.Group{Name: fmt.Sprintf("g%d", a), Sort: 1, Min: 1})
		for b := a + 1; b < 64; b++ {
			x.Tables.Conflicts = append(x.Tables.Conflicts, api.Conflict{A: a, B: b, AB: 1, BA: 1})
		}
		x.Dets = append(x.Dets, api.Det{Name: fmt.Sprintf("d%d", a), Latch: true, Delay: a, Hold: a})
		x.Timers = append(x.Timers, fmt.Sprintf("t%d", a))
	}
	for i := range 256 {
		x.Stages = append(x.Stages, api.TStage{Name: fmt.Sprintf("s%d", i), Id: i, Green: 1 << (i % 64)})
	}
	for i := range 128 {
		set := api.Stmt{Kind: api.StSet, Expr: over(api.OpAdd, leaf(api.OpVar, 0), leaf(api.OpInt, 1))}
		x.Stages[128+i].During = slices.Repeat([]api.Stmt{set}, 32)
		x.Stages[128+i].Nexts = slices.Repeat([]api.TNext{{To: 0, When: leaf(api.OpBool, 0)}}, 31)
		x.Stages[i].Nexts = []api.TNext{{To: (i + 1) % 128, When: leaf(api.OpBool, 1)}}
	}
	return x
}

// G1: plans at their limits over many ticks, and what is far above all limits, are through soon.
func TestLarge(t *testing.T) {
	began := time.Now()
	x := crowded()
	list, e := sim.Run(x, make([]uint64, 20000))
	if e != api.OK || len(list) != 20000 || list[19999].Stage == -1 && list[19998].Stage == -1 {
		t.Fatalf("%d entries, %d", len(list), e)
	}
	long := copied(x)
	long.Stages = make([]api.TStage, 1<<20)
	long.Vars = make([]api.Var, 1<<20)
	if _, e := sim.New(long); e != api.ErrTyped {
		t.Errorf("New: %d", e)
	}
	y := begun(t, x).State()
	y.Vars = make([]int32, 1<<20)
	if _, e := sim.Resume(x, y); e != api.ErrState {
		t.Errorf("Resume: %d", e)
	}
	y = begun(t, x).State()
	if _, e := sim.Value(x, y, make([]api.Node, 1<<20)); e != api.ErrExpr {
		t.Errorf("Value: %d", e)
	}
	if took := time.Since(began); took > 10*time.Second {
		t.Errorf("it took %v", took)
	}
}

// What a tick costs: lists of other stages, and what has gone by, are not gone over.
func TestCost(t *testing.T) {
	few := crowded()
	few.Stages = few.Stages[:128]
	per := func(x api.Typed, ticks int) float64 {
		s := begun(t, x)
		for range ticks {
			s.Tick(1)
		}
		return testing.AllocsPerRun(256, func() { s.Tick(1) })
	}
	least := per(few, 10)
	if many, late := per(crowded(), 10), per(few, 5000); many > least || late > least {
		t.Errorf("a tick takes %v pieces of memory, with more stages %v, later %v", least, many, late)
	}
}
