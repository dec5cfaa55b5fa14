package sim_test

import (
	"fmt"
	"math"
	"slices"
	"strings"
	"testing"

	"junction/api"
	"junction/sim"
)

const top = math.MaxInt32

// P8.3, P8.11: the chapter's examples and those of DOC.md, entry by entry.
func TestExamples(t *testing.T) {
	later := strings.Replace(twoPlan, "min 3", "min 4", 1)
	push := []uint64{0, 0, 0, 0, 1, 0, 0, 0, 0, 0, 0, 0}
	for i, c := range []struct {
		text string
		ins  []uint64
		want string
	}{
		{twoPlan, push, "rr -1, gr 0, gr 0, gr 0, gr 0, ar -1, rr -1, rg 1, rg 1, rg 1, rr -1, gr 0"},
		{later, push, "rr -1, gr 0, gr 0, gr 0, gr 0, ar -1, rr -1, rg 1, rg 1, rg 1, rg 1, rr -1"},
		{twoPlan, make([]uint64, 4), "rr -1, gr 0, gr 0, gr 0"},
		// A latch that was set ahead of the first stage; the gate is shut at tick 1.
		{twoPlan, []uint64{1, 0, 0, 0, 0, 0}, "rr -1, gr 0, gr 0, ar -1, rr -1, rg 1"},
		{smallPlan, make([]uint64, 12), strings.Repeat("rrr -1, ", 8) + "lrr -1, lrr -1, grr 0, grr 0"},
		{smallPlan, []uint64{3: 2, 23: 0}, strings.Repeat("rrr -1, ", 8) + "lrr -1, lrr -1, " + strings.Repeat("grr 0, ", 7) + "arr -1, arr -1, arr -1, rrr -1, rrg -1, rgg 2, rgg 2"},
	} {
		list, e := sim.Run(resolved(t, c.text), c.ins)
		if got := told(list); got != c.want || e != api.OK {
			t.Errorf("row %d: %s, %d, want %s", i, got, e, c.want)
		}
	}
}

// P8.3: the states behind the ticks of the chapter's example.
func TestStatesOfTheExample(t *testing.T) {
	s := begun(t, resolved(t, twoPlan))
	type row struct {
		tick, stage, target int
		elapsed, walks      int32
		det                 api.DetState
		aspect              [2]int
		in, away            [2]int32
	}
	off, mem := api.DetState{}, api.DetState{Mem: true}
	rows := []row{
		{1, -1, 0, 0, 0, off, [2]int{0, 0}, [2]int32{1, 1}, [2]int32{1, 1}},
		{2, 0, -1, 0, 0, off, [2]int{2, 0}, [2]int32{1, 2}, [2]int32{0, 2}},
		{3, 0, -1, 1, 0, off, [2]int{2, 0}, [2]int32{2, 3}, [2]int32{0, 3}},
		{4, 0, -1, 2, 0, off, [2]int{2, 0}, [2]int32{3, 4}, [2]int32{0, 4}},
		{5, 0, 1, 3, 0, api.DetState{Run: 1, On: true, Mem: true}, [2]int{2, 0}, [2]int32{4, 5}, [2]int32{0, 5}},
		{6, 0, 1, 3, 0, mem, [2]int{3, 0}, [2]int32{1, 6}, [2]int32{1, 6}},
		{7, 0, 1, 3, 0, mem, [2]int{0, 0}, [2]int32{1, 7}, [2]int32{2, 7}},
		{8, 1, -1, 0, 1, off, [2]int{0, 2}, [2]int32{2, 1}, [2]int32{3, 0}},
		{9, 1, -1, 1, 1, off, [2]int{0, 2}, [2]int32{3, 2}, [2]int32{4, 0}},
		{10, 1, 0, 2, 1, off, [2]int{0, 2}, [2]int32{4, 3}, [2]int32{5, 0}},
		{11, 1, 0, 2, 1, off, [2]int{0, 0}, [2]int32{5, 1}, [2]int32{6, 1}},
		{12, 0, -1, 0, 1, off, [2]int{2, 0}, [2]int32{1, 2}, [2]int32{0, 2}},
	}
	for i, r := range rows {
		in := uint64(0)
		if i == 4 {
			in = 1
		}
		s.Tick(in)
		want := api.State{Tick: r.tick, Stage: r.stage, Target: r.target, Elapsed: r.elapsed, Heads: api.Heads{Aspect: r.aspect[:], In: r.in[:], Away: r.away[:]}, Counters: []int32{r.walks}, Dets: []api.DetState{r.det}}
		if got := s.State(); !same(got, want) {
			t.Errorf("behind tick %d: %+v, want %+v", i, got, want)
		}
	}
}

// marks is what variable 0 is worth behind each tick.
func marks(t *testing.T, body string, ins ...uint64) []int32 {
	t.Helper()
	s := begun(t, planOf(t, body))
	var list []int32
	for _, in := range ins {
		s.Tick(in)
		list = append(list, s.State().Vars[0])
	}
	return list
}

// P8.3: in which order the parts of a tick come. Variable 0 gathers a digit for each part that has run; a stage without groups arrives at tick 1.
func TestOrderInATick(t *testing.T) {
	for i, c := range []struct {
		body string
		ins  []uint64
		want []int32
	}{
		// Enter, then during, in the tick of the arrival; during alone behind it.
		{"var x = 0; start s; stage s { green; enter { x = x * 10 + 1; } during { x = x * 10 + 2; } }", make([]uint64, 4), []int32{0, 12, 122, 1222}},
		// During ahead of the nexts, leave behind them; leave and then the next one's enter.
		{"var x = 0; start s; stage s { green; enter { x = x * 10 + 1; } during { x = x * 10 + 2; } leave { x = x * 10 + 3; } next u when x == 12; } stage u { green; enter { x = x * 10 + 4; } }", make([]uint64, 4), []int32{0, 123, 1234, 1234}},
		// Leave runs in the tick in which the stage is left, and not where no next is picked.
		{"var x = 0; start s; stage s { green; leave { x = x + 1; } next u when elapsed == 2; next u when false; } stage u { green; }", make([]uint64, 6), []int32{0, 0, 0, 1, 1, 1}},
		// Detectors sense ahead of all lists and guards, at tick 0 too.
		{"detector d; var x = 0; start s; stage s { green; enter { if d { x = 1; } } }", []uint64{0, 1}, []int32{0, 1}},
		{"detector d; var x = 0; start s; stage s { green; enter { if d { x = 1; } } }", []uint64{1, 0}, []int32{0, 0}},
		{"detector d delay 1; var x = 0; start s; stage s { green; enter { if d { x = 1; } } }", []uint64{1, 1}, []int32{0, 1}},
		{"detector d latch; var x = 0; start s; stage s { green; enter { if d { x = 1; } } }", []uint64{1, 0}, []int32{0, 1}},
		{"detector d; var x = 0; start s; stage s { green; leave { x = 1; } next u when d; } stage u { green; }", []uint64{0, 0, 1, 0}, []int32{0, 0, 1, 1}},
		// Timers go on ahead of the lists: one that runs from now on counts from the next tick on.
		{"timer c; var x = 0; start s; stage s { green; enter { run c; } during { x = c; } }", make([]uint64, 5), []int32{0, 0, 1, 2, 3}},
		{"timer c; var x = 0; start s; stage s { green; enter { run c; } during { x = c; if c == 2 { reset c; } } }", make([]uint64, 7), []int32{0, 0, 1, 2, 1, 2, 1}},
		{"timer c; var x = 0; start s; stage s { green; enter { run c; } during { x = c; if c == 2 { stop c; } } }", make([]uint64, 6), []int32{0, 0, 1, 2, 2, 2}},
		// A reset timer that stands goes on standing.
		{"timer c; var x = 9; start s; stage s { green; during { reset c; x = c; } }", make([]uint64, 4), []int32{9, 0, 0, 0}},
		// Elapsed: 0 in all that runs in the tick of the arrival, one more in each tick behind it.
		{"var x = 9; start s; stage s { green; enter { x = elapsed; } }", make([]uint64, 4), []int32{9, 0, 0, 0}},
		{"var x = 9; start s; stage s { green; during { x = elapsed; } }", make([]uint64, 5), []int32{9, 0, 1, 2, 3}},
		{"var x = 9; start s; stage s { green; leave { x = elapsed; } next u when true; } stage u { green; }", make([]uint64, 3), []int32{9, 0, 0}},
		{"var x = 9; start s; stage s { green; leave { x = elapsed; } next u when elapsed >= 2; } stage u { green; during { x = x + elapsed * 10; } }", make([]uint64, 6), []int32{9, 9, 9, 2, 2, 12}},
		// A stage may be left in the tick of its arrival, and arrives anew.
		{"var x = 0; start s; stage s { green; enter { x = x * 10 + 1; } next u when true; } stage u { green; enter { x = x * 10 + 2; } next s when true; }", make([]uint64, 5), []int32{0, 1, 12, 121, 1212}},
		// Guards see what during has done, and a guard is asked in each tick.
		{"var x = 0; start s; stage s { green; during { x = x + 1; } leave { x = 70; } next u when x >= 3; } stage u { green; }", make([]uint64, 5), []int32{0, 1, 2, 70, 70}},
		// The first next whose guard is true, and no other.
		{"var x = 0; start s; stage s { green; next u when false; next v when true; next u when true; } stage u { green; enter { x = 1; } } stage v { green; enter { x = 2; } }", make([]uint64, 3), []int32{0, 0, 2}},
	} {
		if got := marks(t, c.body, c.ins...); !slices.Equal(got, c.want) {
			t.Errorf("row %d: %v, want %v", i, got, c.want)
		}
	}
}

// P8.3: what goes on in a move and what does not.
func TestMove(t *testing.T) {
	x := planOf(t, `group a vehicle min 1 amber 2 lead 1; detector d; detector l latch; timer c; counter n; var v = 0; start s;
		stage s { green a; enter { run c; } leave { v = v + 1; } next u when elapsed >= 1; }
		stage u { green; enter { count n; } during { count n; } next s when d; }`)
	s := begun(t, x)
	type row struct {
		entry         string
		stage, target int
		elapsed       int32
		c, n, v       int32
		mem           bool
	}
	ins := []uint64{0, 0, 0, 0, 2, 0, 0, 0, 1, 0, 0}
	for i, want := range []row{
		{"r -1", -1, 0, 0, 0, 0, 0, false},
		{"l -1", -1, 0, 0, 0, 0, 0, false},
		{"g 0", 0, -1, 0, 0, 0, 0, false},
		{"g 0", 0, 1, 1, 1, 0, 1, false}, // it leaves
		{"a -1", 0, 1, 1, 2, 0, 1, true},
		{"a -1", 0, 1, 1, 3, 0, 1, true},
		{"r 1", 1, -1, 0, 4, 2, 1, true},
		{"r 1", 1, -1, 1, 5, 3, 1, true},
		{"r 1", 1, 0, 2, 6, 4, 1, true}, // it leaves; its leave list is empty
		{"l -1", 1, 0, 2, 7, 4, 1, true},
		{"g 0", 0, -1, 0, 8, 4, 1, true},
	} {
		e := s.Tick(ins[i])
		y := s.State()
		got := row{told([]api.Entry{e}), y.Stage, y.Target, y.Elapsed, y.Timers[0].Value, y.Counters[0], y.Vars[0], y.Dets[1].Mem}
		if got != want {
			t.Errorf("tick %d: %+v, want %+v", i, got, want)
		}
	}
}

// P8.3: a shut gate: no other next is tried, and nothing of the pick is kept.
func TestShutGate(t *testing.T) {
	for i, c := range []struct {
		body string
		ins  []uint64
		want string
	}{
		// The second next could go at once: its stage has the same group.
		{"group a vehicle min 4 amber 1; start s; stage s { green a; next u when true; next v when true; } stage u { green; } stage v { green a; }", make([]uint64, 8), "r -1, g 0, g 0, g 0, g 0, a -1, r 1, r 1"},
		{"group a vehicle min 4 amber 1; start s; stage s { green a; next v when true; next u when true; } stage u { green; } stage v { green a; }", make([]uint64, 4), "r -1, g 0, g 2, g 2"},
		// The guard is true while the gate is shut, and false from then on.
		{"group a vehicle min 4 amber 1; start s; stage s { green a; next u when elapsed < 3; } stage u { green; }", make([]uint64, 8), "r -1, g 0, g 0, g 0, g 0, g 0, g 0, g 0"},
		{"group a vehicle min 4 amber 1; start s; stage s { green a; next u when elapsed < 4; } stage u { green; }", make([]uint64, 7), "r -1, g 0, g 0, g 0, g 0, a -1, r 1"},
		// Another next is picked once the first one's guard is false.
		{"group a vehicle min 9 amber 1; start s; stage s { green a; next u when elapsed < 3; next v when true; } stage u { green; } stage v { green a; }", make([]uint64, 7), "r -1, g 0, g 0, g 0, g 0, g 2, g 2"},
		// The leave list runs once, not at each shut gate: else x would let the plan back.
		{"group a vehicle min 4 amber 0; var x = 0; start s; stage s { green a; leave { x = x + 1; } next u when true; } stage u { green; next s when x > 1; }", make([]uint64, 8), "r -1, g 0, g 0, g 0, g 0, r 1, r 1, r 1"},
		// During runs while the gate is shut.
		{"group a vehicle min 3 amber 0; var x = 0; start s; stage s { green a; during { x = x + 1; } next u when true; } stage u { green; next s when x == 3; }", make([]uint64, 6), "r -1, g 0, g 0, g 0, r 1, g 0"},
	} {
		list, e := sim.Run(planOf(t, c.body), c.ins)
		if got := told(list); got != c.want || e != api.OK {
			t.Errorf("row %d: %s, %d, want %s", i, got, e, c.want)
		}
	}
}

// P8.3: moves that show nothing, and a stage that cannot arrive.
func TestOddStages(t *testing.T) {
	for i, c := range []struct {
		body string
		want string
	}{
		// A stage whose Green is that of the one left arrives at the next tick.
		{"group a vehicle min 1 amber 3 lead 3; start s; stage s { green a; next u when true; } stage u { green a; next s when true; }", "r -1, l -1, l -1, l -1, g 0, g 1, g 0, g 1"},
		{"start s; stage s { green; next u when true; } stage u { green; next s when true; }", " -1,  0,  1,  0,  1,  0,  1,  0"},
		// One without a next stays.
		{"start s; stage u { green; } stage s { green; }", " -1,  1,  1,  1,  1,  1,  1,  1"},
		// Two groups in conflict are never both green.
		{"group a vehicle min 1 amber 0; group b vehicle min 1 amber 0; conflict a b 0 0; start s; stage s { green a, b; next u when true; } stage u { green; }", "rr -1, gr -1, gr -1, gr -1, gr -1, gr -1, gr -1, gr -1"},
		// One group stays green over the move, the other one comes.
		{"group a vehicle min 5 amber 1; group b vehicle min 5 amber 1 lead 2; start s; stage s { green a; next u when true; } stage u { green a, b; }", "rr -1, gr 0, gl -1, gl -1, gg 1, gg 1, gg 1, gg 1"},
	} {
		list, e := sim.Run(planOf(t, c.body), make([]uint64, 8))
		if got := told(list); got != c.want || e != api.OK {
			t.Errorf("row %d: %s, %d, want %s", i, got, e, c.want)
		}
	}
}

// P8.3: statements, one by one and in ifs; detector 0's bit is 1, detector 1's is 0, detector 2 has a latch that is set and is not on.
func TestStatements(t *testing.T) {
	const things = "detector d; detector o; detector l latch; timer c; timer r; counter n; counter m; var x = 0; var y = 5; start s; stage s { green; enter { run r; } "
	for i, c := range []struct {
		list string
		want string // x, y, c, r, n, m, the latch
	}{
		{"", "0 5 0 1 0 0 true"},
		{"x = 7;", "7 5 0 1 0 0 true"},
		{"x = y; y = x + 1;", "5 6 0 1 0 0 true"},
		{"y = y + 1; x = y; y = 0;", "6 0 0 1 0 0 true"},
		{"x = 2147483647 + y;", "-2147483644 5 0 1 0 0 true"},
		{"reset r; x = r;", "0 5 0 0 0 0 true"},
		{"x = r; reset r;", "1 5 0 0 0 0 true"},
		{"count n; count n; count m; x = n;", "2 5 0 1 2 1 true"},
		{"count n; count m; reset n; x = m;", "1 5 0 1 0 1 true"},
		{"if l { x = 1; } clear l; if l { y = 1; }", "1 5 0 1 0 0 false"},
		{"clear d; if d { x = 1; }", "1 5 0 1 0 0 true"},
		{"if d { x = 1; }", "1 5 0 1 0 0 true"},
		{"if o { x = 1; }", "0 5 0 1 0 0 true"},
		{"if d { x = 1; } else { x = 2; } y = 3;", "1 3 0 1 0 0 true"},
		{"if o { x = 1; } else { x = 2; } y = 3;", "2 3 0 1 0 0 true"},
		{"if o { x = 1; x = 3; } y = 3;", "0 3 0 1 0 0 true"},
		{"if d { x = 1; } else if d { x = 2; } else { x = 3; } y = 4;", "1 4 0 1 0 0 true"},
		{"if o { x = 1; } else if d { x = 2; } else { x = 3; } y = 4;", "2 4 0 1 0 0 true"},
		{"if o { x = 1; } else if o { x = 2; } else { x = 3; } y = 4;", "3 4 0 1 0 0 true"},
		{"if d { if d { x = 1; } else { x = 2; } y = 6; } else { x = 3; }", "1 6 0 1 0 0 true"},
		{"if d { if o { x = 1; } else { x = 2; } y = 6; } else { x = 3; }", "2 6 0 1 0 0 true"},
		{"if o { if d { x = 1; } else { x = 2; } y = 6; } else { x = 3; }", "3 5 0 1 0 0 true"},
		{"if o { if d { x = 1; } } else { if d { x = 4; } y = 8; }", "4 8 0 1 0 0 true"},
		{"if d { } else { x = 1; } if o { } else { y = 1; }", "0 1 0 1 0 0 true"},
		{"if d { x = 1; } else { }", "1 5 0 1 0 0 true"},
		{"if x == 0 { x = 1; } if x == 0 { y = 0; } else { y = 9; }", "1 9 0 1 0 0 true"},
	} {
		x := planOf(t, things+"leave { "+c.list+" } next e when elapsed == 1; } stage e { green; }")
		y := behind(t, x, 4, 0, 1)
		if got := fmt.Sprint(y.Vars[0], y.Vars[1], y.Timers[0].Value, y.Timers[1].Value, y.Counters[0], y.Counters[1], y.Dets[2].Mem); got != c.want {
			t.Errorf("row %d, %s: %s, want %s", i, c.list, got, c.want)
		}
		if y.Timers[0].Running || !y.Timers[1].Running || y.Target != 1 {
			t.Errorf("row %d: %+v", i, y)
		}
	}
	y := behind(t, planOf(t, things+"leave { stop r; run c; reset c; } next e when elapsed == 1; } stage e { green; }"), 0, 0, 0, 0)
	if y.Timers[0] != (api.Timer{Value: 1, Running: true}) || y.Timers[1] != (api.Timer{Value: 1}) {
		t.Errorf("run and stop: %+v", y.Timers)
	}
}

// P8.3: each list at its limit: ifs as deep as may be.
func TestDeepIfs(t *testing.T) {
	for _, truths := range []int{0, 1, 7, 15, 16} {
		list := ""
		for i := range 16 {
			list += fmt.Sprintf("if %d < %d { x = x + 1; ", i, truths)
		}
		for i := range 16 {
			list += fmt.Sprintf("} else { y = y * 17 + %d; }", 16-i)
		}
		y := behind(t, planOf(t, "var x = 0; var y = 0; start s; stage s { green; enter { "+list+" } }"), 0, 0)
		want := int32(truths + 1)
		if truths == 16 {
			want = 0
		}
		if y.Vars[0] != int32(truths) || y.Vars[1] != want {
			t.Errorf("%d: %v", truths, y.Vars)
		}
	}
}

// P8.3, G7: meters stay at their greatest number: the tick, elapsed, timers, counters, what heads and detectors count.
func TestMetersStay(t *testing.T) {
	x := planOf(t, "group a vehicle min 1 amber 0; group b vehicle min 1 amber 0; detector d hold 2; timer c; counter n; var v = 0; start s; stage s { green a; during { count n; v = v + 1; } }")
	for _, less := range []int32{0, 1, 2} {
		n := top - less
		y := api.State{
			Tick: math.MaxInt - int(less), Stage: 0, Target: -1, Elapsed: n,
			Heads: api.Heads{Aspect: []int{api.Green, api.Red}, In: []int32{n, n}, Away: []int32{0, n}},
			Vars:  []int32{n}, Timers: []api.Timer{{Value: n, Running: true}}, Counters: []int32{n}, Dets: []api.DetState{{Run: n, On: true}},
		}
		s := resumed(t, x, y)
		for i := range int32(4) {
			if e := s.Tick(1); e != (api.Entry{Heads: "gr", Stage: 0}) {
				t.Errorf("%v", e)
			}
			n := top - max(less-i-1, 0)
			want := api.State{
				Tick: math.MaxInt - int(top-n), Stage: 0, Target: -1, Elapsed: n,
				Heads: api.Heads{Aspect: []int{api.Green, api.Red}, In: []int32{n, n}, Away: []int32{0, n}},
				Vars:  []int32{top - less + i + 1}, Timers: []api.Timer{{Value: n, Running: true}}, Counters: []int32{n}, Dets: []api.DetState{{Run: n, Left: 2, On: true}},
			}
			if got := s.State(); !same(got, want) {
				t.Errorf("%d below, %d ticks behind: %+v, want %+v", less, i+1, got, want)
			}
		}
	}
}

// P8.3: at the greatest tick there is a plan goes on as at any other.
func TestLastTick(t *testing.T) {
	x := resolved(t, twoPlan)
	y := behind(t, x, 0, 0, 0, 0)
	late := copied(y)
	late.Tick = math.MaxInt
	s, l := resumed(t, x, y), resumed(t, x, late)
	for i := range 40 {
		in := uint64(i / 9 % 2)
		if a, b := s.Tick(in), l.Tick(in); a != b {
			t.Errorf("%d ticks behind: %v, %v", i, a, b)
		}
		a, b := s.State(), l.State()
		a.Tick = math.MaxInt
		if !same(a, b) {
			t.Errorf("%d ticks behind: %+v, %+v", i, a, b)
		}
	}
}

// P8.3: all limits at once: 64 of each thing, 256 stages with Ids of their own, the last bits.
func TestTickAtLimits(t *testing.T) {
	x := api.Typed{Name: "p"}
	for i := range 64 {
		x.Tables.Groups = append(x.Tables.Groups, api.Group{Name: fmt.Sprintf("g%d", i), Sort: api.Vehicle, Min: 1})
		x.Dets = append(x.Dets, api.Det{Name: fmt.Sprintf("d%d", i)})
		x.Timers = append(x.Timers, fmt.Sprintf("t%d", i))
		x.Counters = append(x.Counters, fmt.Sprintf("c%d", i))
		x.Vars = append(x.Vars, api.Var{Name: fmt.Sprintf("v%d", i), Init: int32(i)})
	}
	last := api.Stmt{Kind: api.StSet, Ix: 63, Expr: over(api.OpAdd, over(api.OpAdd, leaf(api.OpTimer, 63), leaf(api.OpCounter, 63)), leaf(api.OpVar, 62))}
	for i := range 256 {
		x.Stages = append(x.Stages, api.TStage{Name: fmt.Sprintf("s%d", i), Id: i, Green: 1 << (i % 64)})
	}
	x.Start = 255
	x.Stages[255].Enter = []api.Stmt{{Kind: api.StRun, Ix: 63}, {Kind: api.StCount, Ix: 63}}
	x.Stages[255].During = []api.Stmt{last}
	x.Stages[255].Nexts = []api.TNext{{To: 254, When: over(api.OpAnd, leaf(api.OpDet, 63), over(api.OpAnd, leaf(api.OpGreen, 63), leaf(api.OpRed, 62)))}}
	s := begun(t, x)
	red := strings.Repeat("r", 62)
	for i, c := range []struct {
		in   uint64
		want string
		v    int32
	}{{^uint64(0), red + "rr -1", 63}, {1 << 62, red + "rg 255", 63}, {^uint64(1 << 63), red + "rg 255", 64}, {1 << 63, red + "rg 255", 65}, {0, red + "gr 254", 65}} {
		e := s.Tick(c.in)
		if got, v := told([]api.Entry{e}), s.State().Vars[63]; got != c.want || v != c.v {
			t.Errorf("tick %d: %s, %d, want %s, %d", i, got, v, c.want, c.v)
		}
	}
}
