package vm_test

// A second machine: each tick makes a new state from the old one, over the image as it stands, and notes of each instruction how often it is run.

import (
	"fmt"
	"slices"
	"strings"

	"junction/api"
	"junction/arith"
	"junction/heads"
)

type model struct {
	m     api.Image
	s     api.State
	stack []int32
	times []int          // how often each instruction has been run in this tick
	high  int            // the greatest height of the stack in this tick
	seen  map[string]int // how often what has happened
}

// modelStart is the state at the beginning.
func modelStart(m api.Image) api.State {
	s := api.State{Stage: -1, Target: m.Slots[m.Start].Id, Timers: make([]api.Timer, m.Timers), Counters: make([]int32, m.Counters), Dets: make([]api.DetState, len(m.Dets))}
	for range m.Tables.Groups {
		s.Heads = api.Heads{Aspect: append(s.Heads.Aspect, api.Red), In: append(s.Heads.In, 1), Away: append(s.Heads.Away, 1)}
	}
	s.Vars = append(s.Vars, m.Vars...)
	return s
}

// modelTick is a machine behind a tick from a state on, and the tick's entry.
func modelTick(m api.Image, s api.State, in uint64, seen map[string]int) (*model, api.Entry) {
	v := &model{m: m, s: copied(s), times: make([]int, len(m.Code)), seen: seen}
	for i := range m.Dets {
		v.s.Dets[i] = arith.Sense(m.Dets[i], v.s.Dets[i], in&(1<<i) != 0)
	}
	for i, t := range v.s.Timers {
		if t.Running {
			v.s.Timers[i].Value = up(t.Value)
		}
	}
	first, moving := v.s.Tick == 0, v.s.Target != -1
	if !first {
		want := v.slot(v.s.Stage).Green
		if moving {
			want = v.slot(v.s.Target).Green
		}
		v.s.Heads, _ = heads.Step(m.Tables, v.s.Heads, want)
	}
	if moving && !first && v.settled(v.slot(v.s.Target).Green) {
		v.seen["arrival"]++
		v.s.Stage, v.s.Target, v.s.Elapsed = v.s.Target, -1, 0
		v.section(v.slot(v.s.Stage).Enter)
	} else if !moving {
		v.s.Elapsed = up(v.s.Elapsed)
	}
	entry := api.Entry{Heads: heads.Show(v.s.Heads), Stage: -1}
	if v.s.Target == -1 {
		entry.Stage = v.s.Stage
		v.stay(v.slot(v.s.Stage))
	}
	if v.s.Tick != last {
		v.s.Tick++
	}
	return v, entry
}

// steps is how many instructions the tick has run.
func (v *model) steps() int {
	sum := 0
	for _, n := range v.times {
		sum += n
	}
	return sum
}

func up(n int32) int32 { return int32(min(int64(n)+1, most)) }

func (v *model) slot(id int) api.Slot {
	for _, s := range v.m.Slots {
		if s.Id == id {
			return s
		}
	}
	return api.Slot{}
}

func (v *model) settled(want uint64) bool {
	for g, aspect := range v.s.Heads.Aspect {
		if want>>g&1 == 1 && aspect != api.Green || want>>g&1 == 0 && aspect != api.Red {
			return false
		}
	}
	return true
}

// stay is what a steady slot does behind the entry.
func (v *model) stay(here api.Slot) {
	place := v.section(here.Tick)
	if place < 0 {
		v.seen["no pick"]++
		return
	}
	to := v.m.Slots[place]
	for g, row := range v.m.Tables.Groups {
		if v.s.Heads.Aspect[g] == api.Green && to.Green>>g&1 == 0 && int(v.s.Heads.In[g]) < row.Min {
			v.seen["shut gate"]++
			return
		}
	}
	v.seen["leave"]++
	v.section(here.Leave)
	v.s.Target = to.Id
}

// section runs one, and tells the place of the slot that it picks, or -1.
func (v *model) section(place int) int {
	v.stack = nil
	for {
		in := v.m.Code[place]
		v.times[place]++
		v.seen[words[in.Op]]++
		height, arg := len(v.stack), int(in.Arg)
		place++
		switch in.Op {
		case api.InEnd:
			return -1
		case api.InPick:
			return arg
		case api.InJump:
			place = arg
		case api.InIf, api.InAnd, api.InOr:
			top := v.stack[height-1]
			goes := top == 0 && in.Op != api.InOr || top == 1 && in.Op == api.InOr
			if goes {
				place = arg
				v.seen[words[in.Op]+" jumps"]++
			}
			if !goes || in.Op == api.InIf {
				v.stack = v.stack[:height-1]
			}
		default:
			v.plain(in.Op, arg)
		}
		v.high = max(v.high, len(v.stack))
	}
}

// plain is an instruction that goes on to the one behind it.
func (v *model) plain(op, arg int) {
	height := len(v.stack)
	switch {
	case op < 30:
		v.stack[height-1] = modelUnary(op, v.stack[height-1])
	case op < 60:
		v.stack = append(v.stack[:height-2], modelBinary(op, int64(v.stack[height-2]), int64(v.stack[height-1])))
	case op <= api.InRed:
		v.stack = append(v.stack, v.leaf(op, arg))
	case op == api.InStore:
		v.s.Vars[arg] = v.stack[height-1]
		v.stack = v.stack[:height-1]
	default:
		v.act(op, arg)
	}
}

func (v *model) leaf(op, arg int) int32 {
	s := v.s
	switch op {
	case api.InConst:
		return v.m.Pool[arg]
	case api.InElapsed:
		return s.Elapsed
	case api.InVar:
		return s.Vars[arg]
	case api.InTimer:
		return s.Timers[arg].Value
	case api.InCounter:
		return s.Counters[arg]
	case api.InDet:
		return bit(s.Dets[arg].On || v.m.Dets[arg].Latch && s.Dets[arg].Mem)
	case api.InGreen:
		return bit(s.Heads.Aspect[arg] == api.Green)
	case api.InRed:
		return bit(s.Heads.Aspect[arg] == api.Red)
	}
	return int32(arg)
}

func (v *model) act(op, arg int) {
	s := v.s
	switch op {
	case api.InReset:
		s.Timers[arg].Value = 0
	case api.InRun, api.InStop:
		s.Timers[arg].Running = op == api.InRun
	case api.InCount:
		s.Counters[arg] = up(s.Counters[arg])
	case api.InZero:
		s.Counters[arg] = 0
	case api.InClear:
		s.Dets[arg].Mem = false
	}
}

func bit(is bool) int32 {
	if is {
		return 1
	}
	return 0
}

func modelUnary(op int, a int32) int32 {
	switch {
	case op == api.OpNot:
		return bit(a == 0)
	case op == api.OpAbs && a >= 0:
		return a
	}
	return int32(-int64(a))
}

// modelBinary counts with whole numbers, and wraps in the end.
func modelBinary(op int, a, b int64) int32 {
	switch op {
	case api.OpAdd:
		return int32(a + b)
	case api.OpSub:
		return int32(a - b)
	case api.OpMul:
		return int32(a * b)
	case api.OpDiv, api.OpRem:
		switch {
		case b == 0:
			return 0
		case op == api.OpDiv:
			return int32(a / b)
		}
		return int32(a % b)
	case api.OpMin:
		return int32(min(a, b))
	case api.OpMax:
		return int32(max(a, b))
	case api.OpEq:
		return bit(a == b)
	case api.OpNe:
		return bit(a != b)
	case api.OpLt:
		return bit(a < b)
	case api.OpLe:
		return bit(a <= b)
	case api.OpGt:
		return bit(a > b)
	case api.OpGe:
		return bit(a >= b)
	case api.OpAnd:
		return bit(a != 0 && b != 0)
	}
	return bit(a != 0 || b != 0)
}

// modelOk tells by the chapter's words whether a state is of an image in which nothing is wrong.
func modelOk(m api.Image, s api.State) bool {
	greens := map[int]uint64{}
	for _, slot := range m.Slots {
		greens[slot.Id] = slot.Green
	}
	green, known := greens[s.Stage]
	_, goes := greens[s.Target]
	switch {
	case s.Tick < 0, s.Elapsed < 0:
		return false
	case s.Target != -1 && !goes, !known && (s.Stage != -1 || s.Target == -1):
		return false
	case !heads.Sound(m.Tables, s.Heads), s.Target == -1 && !(&model{m: m, s: s}).settled(green):
		return false
	case len(s.Vars) != len(m.Vars), len(s.Timers) != m.Timers, len(s.Counters) != m.Counters, len(s.Dets) != len(m.Dets):
		return false
	case slices.ContainsFunc(s.Timers, func(t api.Timer) bool { return t.Value < 0 }), slices.ContainsFunc(s.Counters, func(n int32) bool { return n < 0 }):
		return false
	}
	for i, d := range s.Dets {
		if d.Run < 0 || d.Left < 0 || d.Mem && !m.Dets[i].Latch {
			return false
		}
	}
	return s.Tick > 0 || same(s, modelStart(m))
}

// danger tells what is not safe in a run's pictures, looked at alone (P7.7); "": nothing.
func danger(t api.Tables, pictures []string) string {
	if strings.Trim(pictures[0], "r") != "" {
		return "the first is not all red"
	}
	for i, picture := range pictures {
		for _, c := range t.Conflicts {
			if picture[c.A] != 'r' && picture[c.B] != 'r' {
				return fmt.Sprintf("picture %d: %d and %d", i, c.A, c.B)
			}
		}
	}
	for g, row := range t.Groups {
		column := make([]byte, len(pictures))
		for i, picture := range pictures {
			column[i] = picture[g]
		}
		if what := misshown(row, string(column)); what != "" {
			return fmt.Sprintf("group %d: %s", g, what)
		}
	}
	return early(t, pictures)
}

// early tells of a group that leaves red ahead of an intergreen's end; all groups were green at picture -1.
func early(t api.Tables, pictures []string) string {
	green := slices.Repeat([]int{-1}, len(t.Groups)) // the last picture at which a group was green
	for i, picture := range pictures {
		for _, c := range t.Conflicts {
			if picture[c.B] != 'r' && i-green[c.A] <= c.AB || picture[c.A] != 'r' && i-green[c.B] <= c.BA {
				return fmt.Sprintf("picture %d: %d and %d too early", i, c.A, c.B)
			}
		}
		for g := range green {
			if picture[g] == 'g' {
				green[g] = i
			}
		}
	}
	return ""
}

// misshown tells what is wrong in the letters of one group, picture by picture.
func misshown(row api.Group, column string) string {
	for rest := column; rest != ""; {
		reds := len(rest) - len(strings.TrimLeft(rest, "r"))
		if reds == 0 {
			return "no red ahead of " + rest
		}
		rest = rest[reds:]
		for _, part := range []struct {
			letter      string
			least, most int
		}{{"l", row.Lead, row.Lead}, {"g", row.Min, len(column)}, {"a", row.Amber, row.Amber}} {
			if rest == "" {
				break
			}
			n := len(rest) - len(strings.TrimLeft(rest, part.letter))
			rest = rest[n:]
			if n > part.most || n < part.least && rest != "" {
				return fmt.Sprintf("%d of %s ahead of %q", n, part.letter, rest)
			}
		}
	}
	return ""
}
