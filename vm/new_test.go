package vm_test

import (
	"math/rand"
	"slices"
	"strings"
	"testing"

	"junction/api"
	"junction/load"
	"junction/rom"
	"junction/vm"
)

// leastImage is example 1 of chapter 10.
func leastImage() api.Image {
	return put(api.Image{Name: "p", Slots: make([]api.Slot, 1)}, "end; end; end")
}

// exampleTwo is the chapter's second example.
func exampleTwo() api.Image {
	m := api.Image{Name: "p", Tables: api.Tables{Groups: []api.Group{{Name: "g", Sort: 1, Min: 2, Amber: 1}}}, Slots: []api.Slot{{Id: 0, Green: 1}, {Id: 1}}, Depth: 1}
	return put(m, "end; truth 1, if 4, pick 1, end; end; end; end; end")
}

// things is an image with something of everything. Its Ids are not its places, and its start is not its first slot.
func things() api.Image {
	return put(api.Image{
		Name:     "p",
		Tables:   api.Tables{Groups: []api.Group{{Name: "g", Sort: 1, Min: 1, Amber: 2, Lead: 2}, {Name: "h", Sort: 2, Min: 2}, {Name: "i", Sort: 1, Min: 1, Amber: 2, Lead: 1}}, Conflicts: []api.Conflict{{A: 0, B: 1, AB: 2, BA: 1}}},
		Dets:     []api.Det{{Name: "d", Delay: 1}, {Name: "e", Latch: true, Hold: 2}},
		Timers:   2,
		Counters: 2,
		Vars:     []int32{least, 17},
		Pool:     []int32{1000, -1000},
		Slots:    []api.Slot{{Id: 2, Green: 5}, {Id: 7}, {Id: 255, Green: 2}},
		Start:    2,
		Depth:    3,
	}, `small -3, store 1, run 1, count 1, end; truth 1, if 8, pick 1, truth 1, if 11, pick 2, end; end;
		end; elapsed, small 1, gt, if 19, pick 2, end; end;
		end; const 0, var 0, add, store 0, truth 1, if 29, pick 0, end; clear 1, end`)
}

// broken are images in which something is wrong, and what.
func broken() []struct {
	m    api.Image
	want api.Fault
} {
	type row = struct {
		m    api.Image
		want api.Fault
	}
	list := []row{{api.Image{}, at(api.ErrRom, 0)}}
	for _, c := range []struct {
		spoil func(*api.Image)
		want  api.Fault
	}{
		{func(m *api.Image) { m.Name = "" }, at(api.ErrRom, 0)},
		{func(m *api.Image) { m.Slots = nil }, at(api.ErrRom, 0)},
		{func(m *api.Image) { m.Start = 3 }, at(api.ErrRom, 0)},
		{func(m *api.Image) { m.Start = -1 }, at(api.ErrRom, 0)},
		{func(m *api.Image) { m.Tables.Groups[0].Min = 0 }, at(api.ErrRom, 0)},
		{func(m *api.Image) { m.Slots[1].Id = 2 }, at(api.ErrRom, 0)},
		{func(m *api.Image) { m.Timers = -1 }, at(api.ErrRom, 0)},
		{func(m *api.Image) { m.Code[4].Op = 1 }, at(api.ErrRom, 0)},
		{func(m *api.Image) { m.Code = nil }, at(api.ErrSection, 0)},
		{func(m *api.Image) { m.Slots[0].Tick = 0 }, at(api.ErrSection, 0)},
		{func(m *api.Image) { m.Code[3] = instruction("end") }, at(api.ErrDead, 4)},
		{func(m *api.Image) { m.Code[2] = instruction("jump 2") }, at(api.ErrJump, 2)},
		{func(m *api.Image) { m.Code[0] = instruction("truth 1") }, at(api.ErrSort, 1)},
		{func(m *api.Image) { m.Code[1] = instruction("run 0") }, at(api.ErrStack, 4)},
		{func(m *api.Image) { m.Depth = 1 }, at(api.ErrStack, 15)},
		{func(m *api.Image) { m.Vars = m.Vars[:1] }, at(api.ErrIndex, 1)},
		{func(m *api.Image) { m.Code[7].Arg = 3 }, at(api.ErrIndex, 7)},
		{func(m *api.Image) { m.Code[4] = instruction("pick 1") }, at(api.ErrPick, 4)},
		{func(m *api.Image) { m.Code[4] = instruction("run 0") }, at(api.ErrEnd, 4)},
	} {
		m := things()
		c.spoil(&m)
		list = append(list, row{m, c.want})
	}
	return list
}

// P13.1: the state at the beginning, also of the least image, and of one whose start is not its first slot.
func TestNew(t *testing.T) {
	t.Parallel()
	for i, c := range []struct {
		m    api.Image
		want api.State
	}{
		{things(), api.State{
			Stage: -1, Target: 255,
			Heads:    api.Heads{Aspect: []int{0, 0, 0}, In: []int32{1, 1, 1}, Away: []int32{1, 1, 1}},
			Vars:     []int32{least, 17},
			Timers:   make([]api.Timer, 2),
			Counters: make([]int32, 2),
			Dets:     make([]api.DetState, 2),
		}},
		{leastImage(), api.State{Stage: -1}},
		{generated(t, resolved(t, twoPlan)), api.State{Stage: -1, Heads: api.Heads{Aspect: []int{0, 0}, In: []int32{1, 1}, Away: []int32{1, 1}}, Counters: []int32{0}, Dets: make([]api.DetState, 1)}},
	} {
		v := begun(t, c.m)
		if got := v.State(); !same(got, c.want) {
			t.Errorf("row %d: %+v, want %+v", i, got, c.want)
		}
		if v.Steps() != 0 || v.High() != 0 {
			t.Errorf("row %d: %d steps, %d high ahead of the first tick", i, v.Steps(), v.High())
		}
	}
}

// P13.1, P13.2, P13.7, G5: an image in which something is wrong is refused with what load tells, ahead of all else, and with nothing beside it.
func TestBrokenImages(t *testing.T) {
	t.Parallel()
	fit := begun(t, things()).State()
	for i, c := range broken() {
		if f := load.Verify(c.m); f != c.want {
			t.Fatalf("row %d: load tells %v, want %v", i, f, c.want)
		}
		if v, f := vm.New(c.m); v != nil || f != c.want {
			t.Errorf("row %d: New: %v, %v, want %v", i, v, f, c.want)
		}
		for _, s := range []api.State{fit, {}, {Tick: -1}} {
			if v, f := vm.Resume(c.m, s); v != nil || f != c.want {
				t.Errorf("row %d: Resume: %v, %v, want %v", i, v, f, c.want)
			}
		}
		b, errno := rom.Encode(c.m)
		if errno != api.OK {
			continue
		}
		for _, ins := range [][]uint64{nil, {}, {1, 2, 3}} {
			if list, f := vm.Run(b, ins); len(list) != 0 || f != c.want {
				t.Errorf("row %d: Run: %v, %v, want %v", i, list, f, c.want)
			}
		}
	}
}

// P13.7: the chapter's examples, and that Run is New and Tick in turn.
func TestRun(t *testing.T) {
	t.Parallel()
	for i, c := range []struct {
		m     api.Image
		count int
		want  string
	}{
		{leastImage(), 10, " -1" + strings.Repeat(",  0", 9)},
		{exampleTwo(), 8, "r -1, g 0, g 0, a -1, r 1, r 1, r 1, r 1"},
		{leastImage(), 0, ""},
		{leastImage(), 1, " -1"},
		{things(), 12, "rrr -1, rrr -1, rgr 255, rgr 255, rrl -1, lrg -1, lrg -1, grg 2, ara -1, ara -1, rrr 7, rrr 7"},
	} {
		list := ran(t, c.m, make([]uint64, c.count))
		if told(list) != c.want {
			t.Errorf("row %d: %s, want %s", i, told(list), c.want)
		}
	}
	for _, m := range []api.Image{things(), generated(t, resolved(t, smallPlan)), generated(t, resolved(t, twoPlan))} {
		for _, count := range []int{1, 2, 80} {
			ins := make([]uint64, count)
			for i := range ins {
				ins[i] = uint64(i * i % 4)
			}
			v := begun(t, m)
			var want []api.Entry
			for _, in := range ins {
				want = append(want, v.Tick(in))
			}
			if list := ran(t, m, ins); !slices.Equal(list, want) {
				t.Errorf("%d: %s, want %s", count, told(list), told(want))
			}
		}
		for _, ins := range [][]uint64{nil, {}} {
			if list, f := vm.Run(encoded(t, m), ins); len(list) != 0 || f != (api.Fault{}) {
				t.Errorf("no inputs: %v, %v", list, f)
			}
		}
	}
}

// P13.7: bytes that are no image are refused as load refuses them.
func TestRunOfBrokenBytes(t *testing.T) {
	t.Parallel()
	good := encoded(t, things())
	turned := slices.Clone(good)
	turned[40] ^= 1
	for i, c := range []struct {
		b    []byte
		want api.Fault
	}{
		{nil, at(api.ErrCut, 0)},
		{[]byte{}, at(api.ErrCut, 0)},
		{[]byte("JSQ"), at(api.ErrMagic, 2)},
		{[]byte("JSP"), at(api.ErrCut, 3)},
		{good[:len(good)-1], at(api.ErrCut, len(good)-1)},
		{append(slices.Clone(good), 0), at(api.ErrRest, len(good))},
		{turned, at(api.ErrSum, len(good)-4)},
	} {
		for _, ins := range [][]uint64{nil, make([]uint64, 3)} {
			if list, f := vm.Run(c.b, ins); len(list) != 0 || f != c.want {
				t.Errorf("row %d: %v, %v, want %v", i, list, f, c.want)
			}
		}
	}
	r := rand.New(rand.NewSource(137))
	for range 3000 {
		b := encoded(t, anyWild(r))
		for range r.Intn(3) {
			b[r.Intn(len(b))] ^= 1 << r.Intn(8)
		}
		_, want := load.Load(b)
		if list, f := vm.Run(b, []uint64{0, 1}); f != want || len(list) != map[bool]int{true: 2}[want == api.Fault{}] {
			t.Fatalf("%d entries, %v, want %v of %x", len(list), f, want, b)
		}
	}
}
