package vm_test

import (
	"fmt"
	"slices"
	"strings"
	"testing"

	"junction/api"
)

// P13.3, P13.5: the chapter's first example, with its counts.
func TestLeastImage(t *testing.T) {
	t.Parallel()
	v := begun(t, leastImage())
	for tick := range 10 {
		want, steps := api.Entry{Stage: 0}, 1
		switch tick {
		case 0:
			want.Stage, steps = -1, 0
		case 1:
			steps = 2
		}
		if e := v.Tick(0); e != want || v.Steps() != steps || v.High() != 0 {
			t.Errorf("tick %d: %v, %d steps, %d high", tick, e, v.Steps(), v.High())
		}
	}
	if s := v.State(); !same(s, api.State{Tick: 10, Stage: 0, Target: -1, Elapsed: 8}) {
		t.Errorf("%+v", s)
	}
}

// P13.3, P13.5: the second one: the gate is shut, then open.
func TestExampleTwo(t *testing.T) {
	t.Parallel()
	v := begun(t, exampleTwo())
	heads := func(aspect int, in, away int32) api.Heads {
		return api.Heads{Aspect: []int{aspect}, In: []int32{in}, Away: []int32{away}}
	}
	for tick, c := range []struct {
		entry       string
		state       api.State
		steps, high int
	}{
		{"r -1", api.State{Tick: 1, Stage: -1, Target: 0, Heads: heads(api.Red, 1, 1)}, 0, 0},
		{"g 0", api.State{Tick: 2, Stage: 0, Target: -1, Heads: heads(api.Green, 1, 0)}, 4, 1},
		{"g 0", api.State{Tick: 3, Stage: 0, Target: 1, Elapsed: 1, Heads: heads(api.Green, 2, 0)}, 4, 1},
		{"a -1", api.State{Tick: 4, Stage: 0, Target: 1, Elapsed: 1, Heads: heads(api.Amber, 1, 1)}, 0, 0},
		{"r 1", api.State{Tick: 5, Stage: 1, Target: -1, Heads: heads(api.Red, 1, 2)}, 2, 0},
		{"r 1", api.State{Tick: 6, Stage: 1, Target: -1, Elapsed: 1, Heads: heads(api.Red, 2, 3)}, 1, 0},
	} {
		e := v.Tick(0)
		if got := told([]api.Entry{e}); got != c.entry || !same(v.State(), c.state) || v.Steps() != c.steps || v.High() != c.high {
			t.Errorf("tick %d: %s, %+v, %d steps, %d high", tick, got, v.State(), v.Steps(), v.High())
		}
	}
}

// P13.3, P13.9: the examples of chapter 8 and of DOC.md, entry by entry.
func TestExamplesOfPlans(t *testing.T) {
	t.Parallel()
	later := strings.Replace(twoPlan, "min 3", "min 4", 1)
	push := []uint64{0, 0, 0, 0, 1, 0, 0, 0, 0, 0, 0, 0}
	for i, c := range []struct {
		text string
		ins  []uint64
		want string
	}{
		{twoPlan, push, "rr -1, gr 0, gr 0, gr 0, gr 0, ar -1, rr -1, rg 1, rg 1, rg 1, rr -1, gr 0"},
		{later, push, "rr -1, gr 0, gr 0, gr 0, gr 0, ar -1, rr -1, rg 1, rg 1, rg 1, rg 1, rr -1"},
		{smallPlan, make([]uint64, 12), strings.Repeat("rrr -1, ", 8) + "lrr -1, lrr -1, grr 0, grr 0"},
		{smallPlan, []uint64{3: 2, 23: 0}, strings.Repeat("rrr -1, ", 8) + "lrr -1, lrr -1, " + strings.Repeat("grr 0, ", 7) + "arr -1, arr -1, arr -1, rrr -1, rrg -1, rgg 2, rgg 2"},
	} {
		if got := told(ran(t, generated(t, resolved(t, c.text)), c.ins)); got != c.want {
			t.Errorf("row %d: %s, want %s", i, got, c.want)
		}
	}
}

// bench is an image whose one slot is steady; its Tick section is what the text has. Variable 2 is for what comes out.
func bench(text string) api.Image {
	return put(api.Image{
		Name:     "p",
		Tables:   api.Tables{Groups: []api.Group{{Name: "g", Sort: 1, Min: 1}, {Name: "h", Sort: 1, Min: 1}}},
		Dets:     []api.Det{{Name: "d"}, {Name: "e", Latch: true}, {Name: "f"}},
		Timers:   2,
		Counters: 2,
		Vars:     make([]int32, 3),
		Pool:     []int32{1000, least, most, 1000},
		Slots:    []api.Slot{{Id: 4, Green: 2}},
		Depth:    4,
	}, "end; "+text+"; end")
}

// benchState has another number in each place. In the tick behind it Elapsed becomes 8 and timer 1 31, detector 0 is on, detector 1 has its latch alone.
func benchState() api.State {
	return api.State{
		Tick: 40, Stage: 4, Target: -1, Elapsed: 7,
		Heads:    api.Heads{Aspect: []int{api.Red, api.Green}, In: []int32{9, 9}, Away: []int32{9, 0}},
		Vars:     []int32{5, -7, -99},
		Timers:   []api.Timer{{Value: 20}, {Value: 30, Running: true}},
		Counters: []int32{50, most},
		Dets:     []api.DetState{{}, {Mem: true}, {}},
	}
}

// benched is the state behind one tick of the bench, in which the bit of detector 0 alone is 1, and the tick's counts.
func benched(t *testing.T, text string) (s api.State, steps, high int) {
	t.Helper()
	v := resumed(t, bench(text), benchState())
	if e := v.Tick(1); e != (api.Entry{Heads: "rg", Stage: 4}) {
		t.Errorf("%s: %v", text, e)
	}
	return v.State(), v.Steps(), v.High()
}

// idle is the state behind a tick of the bench that runs nothing.
func idle() api.State {
	s := benchState()
	s.Tick, s.Elapsed, s.Timers[1].Value, s.Dets[0] = 41, 8, 31, api.DetState{Run: 1, On: true}
	s.Heads.In, s.Heads.Away = []int32{10, 10}, []int32{10, 0}
	return s
}

// P13.3, G7: each instruction that puts a word on the stack, over its operands: what comes out, and how high the stack was.
func TestValues(t *testing.T) {
	t.Parallel()
	for _, c := range []struct {
		text string
		want int32
		high int
	}{
		{"const 0", 1000, 1}, {"const 1", least, 1}, {"const 2", most, 1}, {"const 3", 1000, 1},
		{"small 127", 127, 1}, {"small -128", -128, 1}, {"small 0", 0, 1},
		{"elapsed", 8, 1},
		{"var 0", 5, 1}, {"var 1", -7, 1}, {"var 2", -99, 1},
		{"timer 0", 20, 1}, {"timer 1", 31, 1},
		{"counter 0", 50, 1}, {"counter 1", most, 1},
		{"var 0, neg", -5, 1}, {"var 1, neg", 7, 1}, {"const 1, neg", least, 1},
		{"var 0, abs", 5, 1}, {"var 1, abs", 7, 1}, {"const 1, abs", least, 1},
		{"var 0, var 1, add", -2, 2}, {"const 2, small 1, add", least, 2},
		{"var 0, var 1, sub", 12, 2}, {"var 1, var 0, sub", -12, 2}, {"const 1, small 1, sub", most, 2},
		{"var 0, var 1, mul", -35, 2}, {"const 2, const 2, mul", 1, 2},
		{"var 1, small 2, div", -3, 2}, {"small 2, var 1, div", 0, 2}, {"var 0, small 0, div", 0, 2}, {"const 1, small -1, div", least, 2},
		{"var 1, small 2, rem", -1, 2}, {"var 0, small 3, rem", 2, 2}, {"var 0, small 0, rem", 0, 2}, {"const 1, small -1, rem", 0, 2},
		{"var 0, var 1, min", -7, 2}, {"var 1, var 0, min", -7, 2}, {"var 0, var 1, max", 5, 2}, {"var 1, var 0, max", 5, 2},
		{"small 9, small 2, small 3, mul, sub", 3, 3}, {"small 9, small 2, sub, small 3, mul", 21, 2},
		{"small 1, small 2, small 3, small 4, sub, sub, sub", -2, 4},
	} {
		got, steps, high := benched(t, c.text+", store 2, end")
		want := idle()
		want.Vars[2] = c.want
		if !same(got, want) || high != c.high || steps != strings.Count(c.text, ",")+3 {
			t.Errorf("%s: %+v, %d steps, %d high, want %+v, %d high", c.text, got, steps, high, want, c.high)
		}
	}
}

// asked is a section in which variable 2 becomes 1 if the text's truth is 1, and 2 if it is 0.
func asked(text string) string {
	place := 1 + strings.Count(text, ",") + 1 // of the if; the Enter section is at 0
	return fmt.Sprintf("%s, if %d, small 1, store 2, end, small 2, store 2, end", text, place+4)
}

// P13.3: each instruction that puts a truth on the stack.
func TestTruths(t *testing.T) {
	t.Parallel()
	for _, c := range []struct {
		text string
		want bool
		high int
	}{
		{"truth 1", true, 1}, {"truth 0", false, 1},
		{"det 0", true, 1}, {"det 1", true, 1}, {"det 2", false, 1},
		{"green 0", false, 1}, {"green 1", true, 1}, {"red 0", true, 1}, {"red 1", false, 1},
		{"truth 1, not", false, 1}, {"truth 0, not", true, 1},
		{"var 0, var 0, eq", true, 2}, {"var 0, var 1, eq", false, 2}, {"truth 0, truth 0, eq", true, 2}, {"truth 1, truth 0, eq", false, 2},
		{"var 0, var 0, ne", false, 2}, {"var 0, var 1, ne", true, 2}, {"truth 1, truth 0, ne", true, 2},
		{"var 1, var 0, lt", true, 2}, {"var 0, var 1, lt", false, 2}, {"var 0, var 0, lt", false, 2},
		{"var 1, var 0, le", true, 2}, {"var 0, var 1, le", false, 2}, {"var 0, var 0, le", true, 2},
		{"var 1, var 0, gt", false, 2}, {"var 0, var 1, gt", true, 2}, {"var 0, var 0, gt", false, 2},
		{"var 1, var 0, ge", false, 2}, {"var 0, var 1, ge", true, 2}, {"var 0, var 0, ge", true, 2},
		{"truth 1, truth 1, and", true, 2}, {"truth 1, truth 0, and", false, 2}, {"truth 0, truth 1, and", false, 2}, {"truth 0, truth 0, and", false, 2},
		{"truth 1, truth 1, or", true, 2}, {"truth 1, truth 0, or", true, 2}, {"truth 0, truth 1, or", true, 2}, {"truth 0, truth 0, or", false, 2},
	} {
		got, _, high := benched(t, asked(c.text))
		want := idle()
		want.Vars[2] = map[bool]int32{true: 1, false: 2}[c.want]
		if !same(got, want) || high != c.high {
			t.Errorf("%s: %+v, %d high, want %+v, %d high", c.text, got, high, want, c.high)
		}
	}
}

// P13.3, P13.5: the jumps: where they go, what they leave on the stack, how many instructions are run. Each number that is stored is told, in its order, as the digits of variable 2.
func TestJumps(t *testing.T) {
	t.Parallel()
	note := func(n int) string { return fmt.Sprintf("var 2, small 10, mul, small %d, add, store 2", n) } // 6 instructions
	for i, c := range []struct {
		text  string
		want  int32
		steps int
		high  int
	}{
		// Places: the Enter section has 0, the first instruction here is 1.
		{"small 0, store 2, truth 1, if 11, " + note(1) + ", " + note(2) + ", end", 12, 17, 2},
		{"small 0, store 2, truth 0, if 11, " + note(1) + ", " + note(2) + ", end", 2, 11, 2},
		{"small 0, store 2, truth 1, if 5, end", 0, 5, 1},
		{"small 0, store 2, truth 0, if 5, end", 0, 5, 1},
		{"small 0, store 2, jump 4, end", 0, 4, 1},
		{"small 0, store 2, truth 1, if 12, " + note(1) + ", jump 18, " + note(2) + ", " + note(3) + ", end", 13, 18, 2},
		{"small 0, store 2, truth 0, if 12, " + note(1) + ", jump 18, " + note(2) + ", " + note(3) + ", end", 23, 17, 2},
		// and-jump: 0 stays and is asked again behind the jump, 1 is taken off and the second one is asked.
		{"small 0, store 2, truth 0, andjump 6, truth 1, if 13, " + note(1) + ", end", 0, 6, 1},
		{"small 0, store 2, truth 1, andjump 6, truth 1, if 13, " + note(1) + ", end", 1, 13, 2},
		{"small 0, store 2, truth 1, andjump 6, truth 0, if 13, " + note(1) + ", end", 0, 7, 1},
		{"small 0, store 2, truth 0, orjump 6, truth 1, if 13, " + note(1) + ", end", 1, 13, 2},
		{"small 0, store 2, truth 0, orjump 6, truth 0, if 13, " + note(1) + ", end", 0, 7, 1},
		{"small 0, store 2, truth 1, orjump 6, truth 0, if 13, " + note(1) + ", end", 1, 12, 2},
		// With a word below: it stays where it is.
		{"small 7, truth 0, andjump 5, truth 1, if 7, neg, store 2, end", 7, 6, 2},
		{"small 7, truth 1, andjump 5, truth 1, if 7, neg, store 2, end", -7, 8, 2},
		{"small 7, truth 1, orjump 5, truth 0, if 7, neg, store 2, end", -7, 7, 2},
		{"small 7, truth 0, orjump 5, truth 0, if 7, neg, store 2, end", 7, 7, 2},
	} {
		m := bench("end")
		m.Slots, m.Code = slices.Clone(m.Slots), nil
		m.Code = append(m.Code, instruction("end"))
		for part := range strings.SplitSeq(c.text, ",") {
			m.Code = append(m.Code, instruction(part))
		}
		m.Slots[0].Leave = len(m.Code)
		m.Code = append(m.Code, instruction("end"))
		v := resumed(t, m, benchState())
		v.Tick(0)
		if got := v.State().Vars[2]; got != c.want || v.Steps() != c.steps || v.High() != c.high {
			t.Errorf("row %d: %d behind %d steps, %d high, want %d, %d, %d: %s", i, got, v.Steps(), v.High(), c.want, c.steps, c.high, listed(m))
		}
	}
}

// P13.3: each instruction that changes something, and what it leaves as it is.
func TestActs(t *testing.T) {
	t.Parallel()
	for _, c := range []struct {
		text string
		turn func(*api.State)
	}{
		{"end", func(*api.State) {}},
		{"small 3, store 0, end", func(s *api.State) { s.Vars[0] = 3 }},
		{"small 3, store 1, end", func(s *api.State) { s.Vars[1] = 3 }},
		{"small 3, small 4, store 0, store 1, end", func(s *api.State) { s.Vars[0], s.Vars[1] = 4, 3 }},
		{"small 3, store 0, var 0, store 1, end", func(s *api.State) { s.Vars[0], s.Vars[1] = 3, 3 }},
		{"reset 0, end", func(s *api.State) { s.Timers[0].Value = 0 }},
		{"reset 1, end", func(s *api.State) { s.Timers[1].Value = 0 }},
		{"run 0, end", func(s *api.State) { s.Timers[0].Running = true }},
		{"run 1, end", func(*api.State) {}},
		{"stop 0, end", func(*api.State) {}},
		{"stop 1, end", func(s *api.State) { s.Timers[1].Running = false }},
		{"count 0, end", func(s *api.State) { s.Counters[0] = 51 }},
		{"count 0, count 0, end", func(s *api.State) { s.Counters[0] = 52 }},
		{"count 1, end", func(*api.State) {}},
		{"zero 0, end", func(s *api.State) { s.Counters[0] = 0 }},
		{"zero 1, end", func(s *api.State) { s.Counters[1] = 0 }},
		{"zero 1, count 1, counter 1, store 0, end", func(s *api.State) { s.Counters[1], s.Vars[0] = 1, 1 }},
		{"clear 0, end", func(*api.State) {}},
		{"clear 1, end", func(s *api.State) { s.Dets[1].Mem = false }},
		{"clear 2, end", func(*api.State) {}},
		{"clear 1, " + strings.ReplaceAll(asked("det 1"), "if 6", "if 7"), func(s *api.State) { s.Dets[1].Mem, s.Vars[2] = false, 2 }},
		{"reset 1, timer 1, store 0, end", func(s *api.State) { s.Timers[1].Value, s.Vars[0] = 0, 0 }},
	} {
		got, _, _ := benched(t, c.text)
		want := idle()
		c.turn(&want)
		if !same(got, want) {
			t.Errorf("%s: %+v, want %+v", c.text, got, want)
		}
	}
}

// noted is an image of slots without groups; each section notes its digit in variable 0, and says when it is run.
func noted(slots []api.Slot, start int, text string) api.Image {
	for _, n := range []int{1, 2, 3, 4, 5, 6, 7, 8, 9} {
		text = strings.ReplaceAll(text, fmt.Sprintf("note %d", n), fmt.Sprintf("var 0, small 10, mul, small %d, add, store 0", n))
	}
	return put(api.Image{Name: "p", Dets: []api.Det{{Name: "d"}}, Timers: 1, Vars: []int32{0, 0}, Slots: slots, Start: start, Depth: 2}, text)
}

// P13.3: in which order the parts of a tick come: the sections, what is counted ahead of them, and which slot is left for which.
func TestOrderInATick(t *testing.T) {
	t.Parallel()
	one, two := []api.Slot{{Id: 6}}, []api.Slot{{Id: 6}, {Id: 9}}
	for i, c := range []struct {
		m       api.Image
		ins     []uint64
		notes   []int32
		entries string
	}{
		// Enter, then Tick, in the tick of the arrival; Tick alone behind it; nothing at tick 0.
		{noted(one, 0, "note 1, end; note 2, end; note 3, end"), make([]uint64, 4), []int32{0, 12, 122, 1222}, " -1,  6,  6,  6"},
		// Tick picks: Leave of the slot that is left, then Enter of the other one at the next tick.
		{noted(two, 0, "note 1, end; note 2, pick 1; note 3, end; note 4, end; note 5, end; note 6, end"), make([]uint64, 4), []int32{0, 123, 12345, 123455}, " -1,  6,  9,  9"},
		// There and back: a slot is left in the tick of its arrival.
		{noted(two, 1, "note 1, end; pick 1; note 2, end; note 3, end; pick 0; note 4, end"), make([]uint64, 5), []int32{0, 34, 3412, 341234, 34123412}, " -1,  9,  6,  9,  6"},
		// Detectors sense ahead of the sections.
		{noted(one, 0, "end; det 0, if 9, note 1, end; end"), []uint64{1, 0, 1, 0, 1}, []int32{0, 0, 1, 1, 11}, " -1,  6,  6,  6,  6"},
		// Timers too: one that runs from now on counts from the next tick on.
		{noted(one, 0, "run 0, end; timer 0, store 0, end; end"), make([]uint64, 4), []int32{0, 0, 1, 2}, " -1,  6,  6,  6"},
		// Elapsed: 0 in Enter, in Tick and in Leave in the tick of the arrival, one more in each tick behind it.
		{noted(one, 0, "small 7, store 0, elapsed, store 0, end; end; end"), make([]uint64, 4), []int32{0, 0, 0, 0}, " -1,  6,  6,  6"},
		{noted(one, 0, "end; elapsed, small 1, add, store 0, end; end"), make([]uint64, 4), []int32{0, 1, 2, 3}, " -1,  6,  6,  6"},
		{noted(two, 0, "end; elapsed, small 2, ge, if 6, pick 1, end; elapsed, store 0, end; end; end; end"), make([]uint64, 5), []int32{0, 0, 0, 2, 2}, " -1,  6,  6,  6,  9"},
	} {
		v := begun(t, c.m)
		var notes []int32
		var entries []api.Entry
		for _, in := range c.ins {
			entries = append(entries, v.Tick(in))
			notes = append(notes, v.State().Vars[0])
		}
		if !slices.Equal(notes, c.notes) || told(entries) != c.entries {
			t.Errorf("row %d: %v, %s, want %v, %s", i, notes, told(entries), c.notes, c.entries)
		}
	}
}

// P13.3: a shut gate: what the section Tick has done stays, the section Leave does not run, and nothing of the pick is kept.
func TestShutGate(t *testing.T) {
	t.Parallel()
	m := api.Image{Name: "p", Tables: api.Tables{Groups: []api.Group{{Name: "g", Sort: 1, Min: 3, Amber: 1}}}, Dets: []api.Det{{Name: "d", Latch: true}}, Timers: 1, Counters: 2, Vars: []int32{0}, Slots: []api.Slot{{Id: 1, Green: 1}, {Id: 3}, {Id: 8, Green: 1}}, Depth: 2}
	m = put(m, `end; count 0, run 0, clear 0, elapsed, store 0, elapsed, small 5, lt, if 11, pick 1, pick 2; count 1, end;
		end; end; count 1, end;
		end; end; end`)
	open := put(m, `end; count 0, run 0, clear 0, elapsed, store 0, elapsed, small 1, lt, if 11, pick 1, pick 2; count 1, end;
		end; end; count 1, end;
		end; end; end`)
	type row struct {
		entry    string
		target   int
		counters [2]int32
		v, timer int32
		mem      bool
		steps    int
	}
	for name, c := range map[string]struct {
		m    api.Image
		rows []row
	}{
		"it opens": {m, []row{
			{"r -1", 1, [2]int32{0, 0}, 0, 0, true, 0},
			{"g 1", -1, [2]int32{1, 0}, 0, 0, false, 11},
			{"g 1", -1, [2]int32{2, 0}, 1, 1, false, 10},
			{"g 1", 3, [2]int32{3, 1}, 2, 2, false, 12},
			{"a -1", 3, [2]int32{3, 1}, 2, 3, false, 0},
			{"r 3", -1, [2]int32{3, 1}, 2, 4, false, 2},
		}},
		// By the time that the gate would be open, another slot is picked, whose gate is open at once.
		"another pick": {open, []row{
			{"r -1", 1, [2]int32{0, 0}, 0, 0, true, 0},
			{"g 1", -1, [2]int32{1, 0}, 0, 0, false, 11},
			{"g 1", 8, [2]int32{2, 1}, 1, 1, false, 12},
			{"g 8", -1, [2]int32{2, 1}, 1, 2, false, 2},
		}},
	} {
		v := begun(t, c.m)
		for i, want := range c.rows {
			in := uint64(0)
			if i == 0 {
				in = 1
			}
			e := v.Tick(in)
			s := v.State()
			got := row{told([]api.Entry{e}), s.Target, [2]int32(s.Counters), s.Vars[0], s.Timers[0].Value, s.Dets[0].Mem, v.Steps()}
			if got != want {
				t.Errorf("%s, tick %d: %+v, want %+v", name, i, got, want)
			}
		}
	}
}

// P13.3: what goes on in a move and what does not; Elapsed stays as it was.
func TestMove(t *testing.T) {
	t.Parallel()
	m := api.Image{Name: "p", Tables: api.Tables{Groups: []api.Group{{Name: "g", Sort: 1, Min: 1, Amber: 2, Lead: 1}}}, Dets: []api.Det{{Name: "d"}, {Name: "e", Latch: true}}, Timers: 1, Counters: 1, Vars: []int32{0}, Slots: []api.Slot{{Id: 0, Green: 1}, {Id: 1}}, Depth: 2}
	m = put(m, `run 0, end; elapsed, small 1, ge, if 7, pick 1, end; var 0, small 1, add, store 0, end;
		count 0, end; count 0, det 0, if 19, pick 0, end; end`)
	type row struct {
		entry         string
		stage, target int
		elapsed       int32
		timer, n, v   int32
		mem           bool
	}
	v := begun(t, m)
	ins := []uint64{0, 0, 0, 0, 2, 0, 0, 0, 1, 0, 0}
	for i, want := range []row{
		{"r -1", -1, 0, 0, 0, 0, 0, false},
		{"l -1", -1, 0, 0, 0, 0, 0, false},
		{"g 0", 0, -1, 0, 0, 0, 0, false},
		{"g 0", 0, 1, 1, 1, 0, 1, false}, // it leaves
		{"a -1", 0, 1, 1, 2, 0, 1, true},
		{"a -1", 0, 1, 1, 3, 0, 1, true},
		{"r 1", 1, -1, 0, 4, 2, 1, true},
		{"r 1", 1, -1, 1, 5, 3, 1, true},
		{"r 1", 1, 0, 2, 6, 4, 1, true}, // it leaves
		{"l -1", 1, 0, 2, 7, 4, 1, true},
		{"g 0", 0, -1, 0, 8, 4, 1, true},
	} {
		e := v.Tick(ins[i])
		s := v.State()
		got := row{told([]api.Entry{e}), s.Stage, s.Target, s.Elapsed, s.Timers[0].Value, s.Counters[0], s.Vars[0], s.Dets[1].Mem}
		if got != want {
			t.Errorf("tick %d: %+v, want %+v", i, got, want)
		}
	}
}

// P13.3, G7: meters stay at their greatest number: the tick, Elapsed, timers, counters, what heads and detectors count.
func TestMetersStay(t *testing.T) {
	t.Parallel()
	m := api.Image{Name: "p", Tables: api.Tables{Groups: []api.Group{{Name: "g", Sort: 1, Min: 1}, {Name: "h", Sort: 1, Min: 1}}}, Dets: []api.Det{{Name: "d", Hold: 2}}, Timers: 1, Counters: 1, Vars: []int32{0}, Slots: []api.Slot{{Green: 1}}, Depth: 2}
	m = put(m, "end; count 0, var 0, small 1, add, store 0, end; end")
	for _, less := range []int32{0, 1, 2} {
		state := func(n, v, left int32) api.State {
			return api.State{
				Tick: last - int(most-n), Target: -1, Elapsed: n,
				Heads: api.Heads{Aspect: []int{api.Green, api.Red}, In: []int32{n, n}, Away: []int32{0, n}},
				Vars:  []int32{v}, Timers: []api.Timer{{Value: n, Running: true}}, Counters: []int32{n}, Dets: []api.DetState{{Run: n, Left: left, On: true}},
			}
		}
		v := resumed(t, m, state(most-less, most-less, 0))
		for i := range int32(4) {
			if e := v.Tick(1); e != (api.Entry{Heads: "gr", Stage: 0}) {
				t.Errorf("%v", e)
			}
			want := state(most-max(less-i-1, 0), most-less+i+1, 2)
			if got := v.State(); !same(got, want) {
				t.Errorf("%d below, %d ticks behind: %+v, want %+v", less, i+1, got, want)
			}
		}
	}
}

// P13.3: at the greatest tick there is a machine goes on as at any other.
func TestLastTick(t *testing.T) {
	t.Parallel()
	m := generated(t, resolved(t, twoPlan))
	first := begun(t, m)
	for range 4 {
		first.Tick(0)
	}
	late := first.State()
	late.Tick = last
	v, w := resumed(t, m, first.State()), resumed(t, m, late)
	for i := range 40 {
		in := uint64(i / 9 % 2)
		if a, b := v.Tick(in), w.Tick(in); a != b || v.Steps() != w.Steps() {
			t.Errorf("%d ticks behind: %v, %v", i, a, b)
		}
		a, b := v.State(), w.State()
		a.Tick = last
		if !same(a, b) {
			t.Errorf("%d ticks behind: %+v, %+v", i, a, b)
		}
	}
}

// P13.3, G8: all limits at once: 64 of each thing, 256 slots, the last bits, the last places.
func TestTickAtLimits(t *testing.T) {
	t.Parallel()
	m := api.Image{Name: "p", Timers: 64, Counters: 64, Vars: make([]int32, 64), Pool: make([]int32, 16384), Slots: make([]api.Slot, 256), Start: 255, Depth: 3}
	for i := range 64 {
		m.Tables.Groups = append(m.Tables.Groups, api.Group{Name: fmt.Sprint("g", i), Sort: 1, Min: 1})
		m.Dets = append(m.Dets, api.Det{Name: fmt.Sprint("d", i)})
		m.Vars[i] = int32(i)
	}
	m.Pool[16383] = 100000
	for i := range m.Slots {
		m.Slots[i] = api.Slot{Id: i, Green: 1 << (i % 64)}
	}
	const lastSlot = 3 * 255 // where it begins
	m = put(m, strings.Repeat("end; end; end; ", 255)+fmt.Sprintf("run 63, count 63, end; timer 63, counter 63, add, var 62, add, const 16383, add, store 63, det 63, green 63, and, red 62, and, if %d, pick 254, end; end", lastSlot+3+15))
	v := begun(t, m)
	red := strings.Repeat("r", 62)
	for i, c := range []struct {
		in   uint64
		want string
		v    int32
	}{{^uint64(0), red + "rr -1", 63}, {1 << 62, red + "rg 255", 100063}, {^uint64(1 << 63), red + "rg 255", 100064}, {1 << 63, red + "rg 255", 100065}, {0, red + "gr 254", 100065}} {
		e := v.Tick(c.in)
		if got, n := told([]api.Entry{e}), v.State().Vars[63]; got != c.want || n != c.v {
			t.Errorf("tick %d: %s, %d, want %s, %d", i, got, n, c.want, c.v)
		}
	}
}
