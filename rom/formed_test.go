package rom_test

import (
	"fmt"
	"math/rand"
	"strings"
	"testing"

	"junction/api"
	"junction/rom"
)

// change is a change of an image, in words.
type change struct {
	what string
	make func(m *api.Image)
}

// set is a change of each number of a list that a field may be.
func set(what string, field func(m *api.Image) *int, values ...int) []change {
	var list []change
	for _, v := range values {
		list = append(list, change{fmt.Sprint(what, " ", v), func(m *api.Image) { *field(m) = v }})
	}
	return list
}

func join(lists ...[]change) []change {
	var all []change
	for _, list := range lists {
		all = append(all, list...)
	}
	return all
}

func timers(m *api.Image) *int    { return &m.Timers }
func counters(m *api.Image) *int  { return &m.Counters }
func depth(m *api.Image) *int     { return &m.Depth }
func start(m *api.Image) *int     { return &m.Start }
func delay(m *api.Image) *int     { return &m.Dets[0].Delay }
func hold(m *api.Image) *int      { return &m.Dets[1].Hold }
func enter(m *api.Image) *int     { return &m.Slots[1].Enter }
func tick(m *api.Image) *int      { return &m.Slots[2].Tick }
func leave(m *api.Image) *int     { return &m.Slots[0].Leave }
func firstId(m *api.Image) *int   { return &m.Slots[0].Id }
func secondId(m *api.Image) *int  { return &m.Slots[1].Id }
func thirdId(m *api.Image) *int   { return &m.Slots[2].Id }
func sort(m *api.Image) *int      { return &m.Tables.Groups[0].Sort }
func minimum(m *api.Image) *int   { return &m.Tables.Groups[0].Min }
func amber(m *api.Image) *int     { return &m.Tables.Groups[1].Amber }
func lead(m *api.Image) *int      { return &m.Tables.Groups[2].Lead }
func conflictA(m *api.Image) *int { return &m.Tables.Conflicts[0].A }
func conflictB(m *api.Image) *int { return &m.Tables.Conflicts[1].B }
func there(m *api.Image) *int     { return &m.Tables.Conflicts[2].AB }
func back(m *api.Image) *int      { return &m.Tables.Conflicts[0].BA }

// allowed are changes of the rich image that leave it formed.
func allowed() []change {
	return join(
		set("timers", timers, 0, 64), set("counters", counters, 0, 63), set("depth", depth, 0, 65535), set("start", start, 0, 1),
		set("delay", delay, 0, 3600), set("hold", hold, 0, 3600), set("enter", enter, 0, 65535), set("tick", tick, 0, 65535), set("leave", leave, 0, 65535),
		set("the first id", firstId, 0, 1), set("the second id", secondId, 254), set("the third id", thirdId, 4),
		set("sort", sort, 1, 2), set("min", minimum, 1, 3600), set("amber", amber, 0, 60), set("lead", lead, 0, 60), set("AB", there, 0, 3600), set("BA", back, 0, 3600),
		[]change{
			{"a name of 32 bytes", func(m *api.Image) { m.Name = strings.Repeat("x", 32) }},
			{"the name of a group", func(m *api.Image) { m.Name = "main" }},
			{"the name of a detector", func(m *api.Image) { m.Name = "loop" }},
			{"green: none", func(m *api.Image) { m.Slots[0].Green = 0 }},
			{"green: all", func(m *api.Image) { m.Slots[0].Green = 7 }},
			{"nothing of most", func(m *api.Image) { *m = api.Image{Name: "p", Slots: make([]api.Slot, 1)} }},
			{"empty lists", func(m *api.Image) {
				*m = api.Image{Name: "p", Tables: api.Tables{Groups: []api.Group{}, Conflicts: []api.Conflict{}}, Dets: []api.Det{}, Vars: []int32{}, Pool: []int32{}, Slots: make([]api.Slot, 1), Code: []api.Instr{}}
			}},
			{"no conflicts", func(m *api.Image) { m.Tables.Conflicts = nil }},
			{"code that no loader takes", func(m *api.Image) {
				m.Code = []api.Instr{{Op: api.InVar, Arg: 200}, {Op: api.InJump}, {Op: api.InClear, Arg: 255}}
			}},
		},
	)
}

// refused are changes of the rich image behind which it is not formed.
func refused() []change {
	return join(
		set("timers", timers, -1, 65, 256, 1<<32), set("counters", counters, -1, 65, -1<<63), set("depth", depth, -1, 65536, 1<<40), set("start", start, -1, 3, 65536),
		set("delay", delay, -1, 3601, 65536), set("hold", hold, -1, 3601, 1<<63-1), set("enter", enter, -1, 65536), set("tick", tick, -1, 65536, 1<<32), set("leave", leave, -1, 65536),
		set("the first id", firstId, -1, 3, 4), set("the second id", secondId, 1, 2, 255), set("the third id", thirdId, 3, 256, 511),
		set("sort", sort, 0, 3, 257), set("min", minimum, 0, 3601, 65537), set("amber", amber, -1, 61, 256), set("lead", lead, -1, 61, 256),
		set("A", conflictA, -1, 1, 3), set("B", conflictB, 0, 1, 3, 64), set("AB", there, -1, 3601), set("BA", back, -1, 3601, 65536),
		wrongNames("the name", func(m *api.Image) *string { return &m.Name }),
		wrongNames("a group's name", func(m *api.Image) *string { return &m.Tables.Groups[2].Name }, "main"),
		wrongNames("a detector's name", func(m *api.Image) *string { return &m.Dets[1].Name }, "main", "loop"),
		[]change{
			{"65 detectors", func(m *api.Image) { m.Dets = dets(65) }},
			{"65 variables", func(m *api.Image) { m.Vars = make([]int32, 65) }},
			{"16385 words", func(m *api.Image) { m.Pool = make([]int32, 16385) }},
			{"no slots", func(m *api.Image) { m.Slots, m.Start = nil, 0 }},
			{"no slots, start -1", func(m *api.Image) { m.Slots, m.Start = nil, -1 }},
			{"257 slots", func(m *api.Image) { m.Slots = slots(257) }},
			{"65537 instructions", func(m *api.Image) { m.Code = ends(65537) }},
			{"65 groups", func(m *api.Image) { m.Tables.Groups = groups(65) }},
			{"green 8", func(m *api.Image) { m.Slots[2].Green = 8 }},
			{"green: bit 63", func(m *api.Image) { m.Slots[0].Green = 1 << 63 }},
			{"green without groups", func(m *api.Image) { *m = little(); m.Slots[0].Green = 1 }},
			{"a conflict twice", func(m *api.Image) { m.Tables.Conflicts[1] = m.Tables.Conflicts[0] }},
			{"no place", func(m *api.Image) { *m = api.Image{} }},
		},
	)
}

func wrongNames(what string, field func(m *api.Image) *string, more ...string) []change {
	var list []change
	for _, name := range append(more, "", "plan", "abs", "9", "a b", "a ", "==", "{", "a\n", "\xff", "a-b", strings.Repeat("x", 33), strings.Repeat("x", 1<<16)) {
		list = append(list, change{fmt.Sprintf("%s %.40q", what, name), func(m *api.Image) { *field(m) = name }})
	}
	return list
}

func groups(n int) []api.Group {
	var list []api.Group
	for i := range n {
		list = append(list, api.Group{Name: fmt.Sprint("g", i), Sort: 1, Min: 1})
	}
	return list
}

func dets(n int) []api.Det {
	var list []api.Det
	for i := range n {
		list = append(list, api.Det{Name: fmt.Sprint("d", i)})
	}
	return list
}

func slots(n int) []api.Slot {
	list := make([]api.Slot, n)
	for i := range list {
		list[i].Id = min(i, 255)
	}
	return list
}

func ends(n int) []api.Instr {
	list := make([]api.Instr, n)
	for i := range list {
		list[i].Op = api.InEnd
	}
	return list
}

// P10.2, P10.3: what the chapter lets in is formed, and is written and read.
func TestFormed(t *testing.T) {
	t.Parallel()
	for _, c := range append(allowed(), change{"as it is", func(*api.Image) {}}, change{"full", func(m *api.Image) { *m = full() }}) {
		m := rich()
		c.make(&m)
		if !rom.Formed(m) {
			t.Errorf("%s: not formed", c.what)
		}
		b, e := rom.Encode(m)
		if e != api.OK || len(b) == 0 {
			t.Errorf("%s: Encode: %d", c.what, e)
		}
		if again, f := rom.Decode(b); f != (api.Fault{}) || !same(again, m) {
			t.Errorf("%s: Decode: %v", c.what, f)
		}
	}
}

// P10.2, P10.3: all else is not, and is refused.
func TestNotFormed(t *testing.T) {
	t.Parallel()
	for _, c := range refused() {
		m := rich()
		c.make(&m)
		if rom.Formed(m) {
			t.Errorf("%s: formed", c.what)
		}
		if b, e := rom.Encode(m); e != api.ErrRom || len(b) != 0 {
			t.Errorf("%s: Encode: %d, %d bytes", c.what, e, len(b))
		}
	}
}

// P10.2: one more of anything than an image at all its limits has is too many.
func TestPastTheLimits(t *testing.T) {
	t.Parallel()
	for _, c := range []change{
		{"groups", func(m *api.Image) { m.Tables.Groups = append(m.Tables.Groups, groups(1)...) }},
		{"conflicts", func(m *api.Image) {
			m.Tables.Conflicts = append(m.Tables.Conflicts, m.Tables.Conflicts[2015])
		}},
		{"detectors", func(m *api.Image) { m.Dets = append(m.Dets, dets(1)...) }},
		{"timers", func(m *api.Image) { m.Timers++ }},
		{"counters", func(m *api.Image) { m.Counters++ }},
		{"variables", func(m *api.Image) { m.Vars = append(m.Vars, 0) }},
		{"words", func(m *api.Image) { m.Pool = append(m.Pool, 0) }},
		{"slots", func(m *api.Image) { m.Slots = append(m.Slots, api.Slot{Id: 256}) }},
		{"start", func(m *api.Image) { m.Start++ }},
		{"depth", func(m *api.Image) { m.Depth++ }},
		{"code", func(m *api.Image) { m.Code = append(m.Code, ends(1)...) }},
		{"a name", func(m *api.Image) { m.Name += "n" }},
		{"a group's name", func(m *api.Image) { m.Tables.Groups[63].Name += "0" }},
		{"a detector's name", func(m *api.Image) { m.Dets[63].Name += "0" }},
		{"an Arg", func(m *api.Image) { m.Code[65535].Arg++ }},
	} {
		m := full()
		if !rom.Formed(m) {
			t.Fatal("the full image is not formed")
		}
		c.make(&m)
		if rom.Formed(m) {
			t.Errorf("one more: %s: formed", c.what)
		}
	}
}

// P10.2, point 7: all numbers of instructions that a byte can be, and some beyond, with the Args at their ranges' edges.
func TestInstructions(t *testing.T) {
	t.Parallel()
	args := []int32{least, -65536, -256, -129, -128, -2, -1, 0, 1, 2, 127, 128, 254, 255, 256, 257, 65534, 65535, 65536, 65537, most}
	for _, op := range append(numbers(-300, 600), least, most, 1<<32+128, 1<<32, -1<<63, 1<<63-1) {
		a, known := argumentTable[op]
		for _, arg := range args {
			m := little()
			m.Code[1] = api.Instr{Op: op, Arg: arg}
			want := known && int64(arg) >= a.lo && int64(arg) <= a.hi
			if rom.Formed(m) != want {
				t.Errorf("Op %d, Arg %d: formed is %v", op, arg, !want)
			}
			b, e := rom.Encode(m)
			if want != (e == api.OK) || want && string(b) != string(encoded(m)) {
				t.Errorf("Op %d, Arg %d: Encode: %d, %x", op, arg, e, b)
			}
		}
	}
	if len(argumentTable) != 41 {
		t.Errorf("%d instructions", len(argumentTable))
	}
}

func numbers(from, to int) []int {
	var list []int
	for n := from; n <= to; n++ {
		list = append(list, n)
	}
	return list
}

// P10.2, P10.3: spoilt images are formed just if the second way says so.
func TestFormedAtRandom(t *testing.T) {
	t.Parallel()
	r := rand.New(rand.NewSource(2))
	points := map[int]int{}
	for range 20000 {
		m := spoilt(r, anyImage(r))
		point := unformed(m)
		points[point]++
		if rom.Formed(m) != (point == 0) {
			t.Fatalf("formed is %v of %+v: point %d", rom.Formed(m), m, point)
		}
		b, e := rom.Encode(m)
		if point == 0 && (e != api.OK || string(b) != string(encoded(m))) {
			t.Fatalf("Encode of %+v: %d, %x", m, e, b)
		}
		if point != 0 && (e != api.ErrRom || len(b) != 0) {
			t.Fatalf("Encode of %+v: %d, %x", m, e, b)
		}
	}
	for _, point := range []int{0, 1, 2, 3, 5, 6, 7} {
		if points[point] < 50 {
			t.Errorf("point %d: %d images", point, points[point])
		}
	}
}
