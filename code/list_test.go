package code_test

import (
	"fmt"
	"math/rand"
	"slices"
	"strings"
	"testing"

	"junction/api"
	"junction/code"
	"junction/rom"
)

// P11.5: the lines of an image that has something of everything.
func TestList(t *testing.T) {
	t.Parallel()
	m := api.Image{
		Name: "north", Pool: []int32{70000, -1, least, most}, Depth: 515, Start: 1,
		Slots: []api.Slot{{Id: 2, Enter: 1, Tick: 20, Leave: 300}, {Id: 255, Enter: 65535}},
		Code:  written("small -128, small 127, const 65535, jump 65535, end, neg, truth 1, var 0"),
	}
	lines, e := code.List(m)
	want := `image north: 2 slots, 8 instructions, 4 constants, depth 515
slot 0: id 2, green 0, enter 1, tick 20, leave 300
slot 1: id 255, green 0, enter 65535, tick 0, leave 0
constant 0: 70000
constant 1: -1
constant 2: -2147483648
constant 3: 2147483647
0: small -128
1: small 127
2: const 65535
3: jump 65535
4: end
5: neg
6: truth 1
7: var 0`
	if e != api.OK || !slices.Equal(lines, strings.Split(want, "\n")) {
		t.Errorf("%s, %d", strings.Join(lines, "\n"), e)
	}
	m = api.Image{Name: "p", Slots: []api.Slot{{}}}
	if lines, e := code.List(m); e != api.OK || !slices.Equal(lines, []string{"image p: 1 slots, 0 instructions, 0 constants, depth 0", "slot 0: id 0, green 0, enter 0, tick 0, leave 0"}) {
		t.Errorf("no code: %q, %d", lines, e)
	}
}

// P11.5: the word of each instruction, with its Arg or without.
func TestListWords(t *testing.T) {
	t.Parallel()
	for op, want := range map[int]string{
		20: "neg", 21: "not", 22: "abs", 30: "add", 31: "sub", 32: "mul", 33: "div", 34: "rem", 35: "min", 36: "max",
		40: "eq", 41: "ne", 42: "lt", 43: "le", 44: "gt", 45: "ge", 50: "and", 51: "or", 128: "end", 132: "elapsed",
		129: "const 1", 130: "small 1", 131: "truth 1", 133: "var 1", 134: "timer 1", 135: "counter 1", 136: "det 1", 137: "green 1", 138: "red 1",
		139: "store 1", 140: "reset 1", 141: "zero 1", 142: "run 1", 143: "stop 1", 144: "count 1", 145: "clear 1",
		146: "if 1", 147: "jump 1", 148: "andjump 1", 149: "orjump 1", 150: "pick 1",
	} {
		in := api.Instr{Op: op, Arg: int32(strings.Count(want, " "))}
		none := api.Instr{Op: op}
		m := api.Image{Name: "p", Slots: []api.Slot{{}}, Code: []api.Instr{in, none}}
		lines, e := code.List(m)
		if e != api.OK || len(lines) != 4 || lines[2] != "0: "+want || lines[3] != "1: "+strings.ReplaceAll(want, "1", "0") {
			t.Errorf("%d: %q, %d", op, lines, e)
		}
	}
}

// P11.5: a mask is a number without a sign.
func TestListGreen(t *testing.T) {
	t.Parallel()
	m := generated(t, fullPlan())
	lines, e := code.List(m)
	if e != api.OK || len(lines) != 1+256+8192+len(m.Code) || !slices.Equal(lines, modelList(m)) {
		t.Errorf("%d lines, %d", len(lines), e)
	}
	if lines[1] != fmt.Sprintf("slot 0: id 0, green 18446744073709551615, enter 0, tick %d, leave %d", m.Slots[0].Tick, m.Slots[0].Leave) {
		t.Errorf("%q", lines[1])
	}
}

// P11.5: an image at all its limits.
func TestListAtItsLimits(t *testing.T) {
	t.Parallel()
	m := api.Image{Name: strings.Repeat("n", 32), Pool: make([]int32, 16384), Depth: 65535, Code: slices.Repeat(written("orjump 65535"), 65536)}
	for i := range 256 {
		m.Slots = append(m.Slots, api.Slot{Id: i, Enter: 65535, Tick: i, Leave: 65535 - i})
	}
	lines, e := code.List(m)
	if e != api.OK || !slices.Equal(lines, modelList(m)) {
		t.Errorf("%d lines, %d", len(lines), e)
	}
}

// P11.5: what is not formed is refused.
func TestListRefused(t *testing.T) {
	t.Parallel()
	one := func(op int, arg int32) []api.Instr { return []api.Instr{{Op: op, Arg: arg}} }
	for i, spoil := range []func(*api.Image){
		func(m *api.Image) { *m = api.Image{} },
		func(m *api.Image) { m.Name = "" },
		func(m *api.Image) { m.Name = "a\nb" },
		func(m *api.Image) { m.Slots = nil },
		func(m *api.Image) { m.Depth = -1 },
		func(m *api.Image) { m.Depth = 65536 },
		func(m *api.Image) { m.Start = 1 },
		func(m *api.Image) { m.Pool = make([]int32, 16385) },
		func(m *api.Image) { m.Slots[0].Id = 256 },
		func(m *api.Image) { m.Slots[0].Green = 1 },
		func(m *api.Image) { m.Slots[0].Tick = -1 },
		func(m *api.Image) { m.Timers = 65 },
		func(m *api.Image) { m.Code = one(0, 0) },
		func(m *api.Image) { m.Code = one(-1, 0) },
		func(m *api.Image) { m.Code = one(151, 0) },
		func(m *api.Image) { m.Code = one(23, 0) },
		func(m *api.Image) { m.Code = one(1<<40, 0) },
		func(m *api.Image) { m.Code = one(-1<<63, 0) },
		func(m *api.Image) { m.Code = one(api.InEnd, 1) },
		func(m *api.Image) { m.Code = one(api.OpAdd, -1) },
		func(m *api.Image) { m.Code = one(api.InSmall, 128) },
		func(m *api.Image) { m.Code = one(api.InJump, 65536) },
		func(m *api.Image) { m.Code = slices.Repeat(written("end"), 65537) },
	} {
		m := api.Image{Name: "p", Slots: []api.Slot{{}}, Code: written("end")}
		spoil(&m)
		if lines, e := code.List(m); e != api.ErrRom || len(lines) != 0 {
			t.Errorf("%d: %q, %d", i, lines, e)
		}
	}
}

// P11.5: images at random, against the model; just those that are formed.
func TestListAtRandom(t *testing.T) {
	t.Parallel()
	r := rand.New(rand.NewSource(8))
	refused := 0
	for range 2000 {
		m := generated(t, anyTyped(r))
		if r.Intn(4) > 0 {
			m = spoilt(r, m)
		}
		lines, e := code.List(m)
		if !rom.Formed(m) {
			refused++
			if e != api.ErrRom || len(lines) != 0 {
				t.Fatalf("%+v is not formed: %q, %d", m, lines, e)
			}
		} else if e != api.OK || !slices.Equal(lines, modelList(m)) {
			t.Fatalf("%+v: %q, %d", m, lines, e)
		}
	}
	if refused < 300 || refused > 1700 {
		t.Errorf("%d of 2000 are refused", refused)
	}
}
