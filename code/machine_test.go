package code_test

// A machine as chapters 11 and 13 have it, to run what is written.

import (
	"fmt"

	"junction/api"
	"junction/arith"
	"junction/heads"
)

// machine runs code over a state.
type machine struct {
	dets  []api.Det
	pool  []int32
	from  int // the place of the first instruction
	code  []api.Instr
	now   *api.State
	stack []int32
	high  int // the greatest height of the stack so far
	steps int
}

func (v *machine) push(n int32) {
	v.stack = append(v.stack, n)
	v.high = max(v.high, len(v.stack))
}

func (v *machine) pop() int32 {
	last := len(v.stack) - 1
	n := v.stack[last]
	v.stack = v.stack[:last]
	return n
}

func truth(is bool) int32 {
	if is {
		return 1
	}
	return 0
}

// run goes on from a place until it is behind the code's end, or the section ends. It tells where that is, and the slot that was picked, or -1.
func (v *machine) run(place int) (end, picked int) {
	for place != v.from+len(v.code) {
		in := v.code[place-v.from]
		v.steps++
		if v.steps > 1<<20 {
			panic("the code does not end")
		}
		next := place + 1
		switch arg := int(in.Arg); in.Op {
		case api.InEnd:
			return place, -1
		case api.InPick:
			return place, arg
		case api.InIf:
			if v.pop() == 0 {
				next = arg
			}
		case api.InJump:
			next = arg
		case api.InAnd, api.InOr:
			if top := v.stack[len(v.stack)-1]; top == truth(in.Op == api.InOr) {
				next = arg
			} else {
				v.pop()
			}
		default:
			v.plain(in.Op, in.Arg)
		}
		place = next
	}
	return place, -1
}

// plain is an instruction that goes on to the one behind it.
func (v *machine) plain(op int, arg int32) {
	s := v.now
	switch op {
	case api.InConst:
		v.push(v.pool[arg])
	case api.InSmall, api.InTruth:
		v.push(arg)
	case api.InElapsed:
		v.push(s.Elapsed)
	case api.InVar:
		v.push(s.Vars[arg])
	case api.InTimer:
		v.push(s.Timers[arg].Value)
	case api.InCounter:
		v.push(s.Counters[arg])
	case api.InDet:
		v.push(truth(arith.Says(v.dets[arg], s.Dets[arg])))
	case api.InGreen:
		v.push(truth(s.Heads.Aspect[arg] == api.Green))
	case api.InRed:
		v.push(truth(s.Heads.Aspect[arg] == api.Red))
	case api.InStore:
		s.Vars[arg] = v.pop()
	case api.InReset:
		s.Timers[arg].Value = 0
	case api.InZero:
		s.Counters[arg] = 0
	case api.InRun, api.InStop:
		s.Timers[arg].Running = op == api.InRun
	case api.InCount:
		s.Counters[arg] = arith.Up(s.Counters[arg])
	case api.InClear:
		s.Dets[arg] = arith.ClearDet(s.Dets[arg])
	default:
		v.operator(op)
	}
}

func (v *machine) operator(op int) {
	if arith.Arity(op) == 1 {
		n, _ := arith.Unary(op, v.pop())
		v.push(n)
		return
	}
	if arith.Arity(op) != 2 {
		panic(fmt.Sprint("no instruction: ", op))
	}
	second := v.pop()
	n, _ := arith.Binary(op, v.pop(), second)
	v.push(n)
}

// player runs a whole image, tick by tick.
type player struct {
	machine
	m     api.Image
	state api.State
}

func newPlayer(m api.Image) *player {
	h, _ := heads.Start(m.Tables)
	p := &player{m: m, state: api.State{Stage: -1, Target: m.Slots[m.Start].Id, Heads: h, Vars: append([]int32(nil), m.Vars...),
		Timers: make([]api.Timer, m.Timers), Counters: make([]int32, m.Counters), Dets: make([]api.DetState, len(m.Dets))}}
	p.machine = machine{dets: m.Dets, pool: m.Pool, code: m.Code, now: &p.state}
	return p
}

// slot is the slot of an Id.
func (p *player) slot(id int) api.Slot {
	for _, s := range p.m.Slots {
		if s.Id == id {
			return s
		}
	}
	panic("no slot")
}

func (p *player) want() uint64 {
	if p.now.Target != -1 {
		return p.slot(p.now.Target).Green
	}
	return p.slot(p.now.Stage).Green
}

// section must end at the InEnd or an InPick with an empty stack.
func (p *player) section(place int) int {
	end, picked := p.run(place)
	if end == len(p.code) || len(p.stack) != 0 {
		panic("a section does not end")
	}
	return picked
}

func (p *player) tick(in uint64) api.Entry {
	s, t := p.now, p.m.Tables
	for i, d := range p.m.Dets {
		s.Dets[i] = arith.Sense(d, s.Dets[i], in>>i&1 == 1)
	}
	for i, timer := range s.Timers {
		s.Timers[i] = arith.StepTimer(timer)
	}
	if s.Tick > 0 {
		s.Heads, _ = heads.Step(t, s.Heads, p.want())
	}
	if s.Target != -1 && s.Tick > 0 && heads.Settled(t, s.Heads, p.want()) {
		s.Stage, s.Target, s.Elapsed = s.Target, -1, 0
		p.section(p.slot(s.Stage).Enter)
	} else if s.Target == -1 {
		s.Elapsed = arith.Up(s.Elapsed)
	}
	entry := api.Entry{Heads: heads.Show(s.Heads), Stage: -1}
	if s.Target == -1 {
		entry.Stage = s.Stage
		if to := p.section(p.slot(s.Stage).Tick); to >= 0 && heads.Gate(t, s.Heads, p.m.Slots[to].Green) {
			p.section(p.slot(s.Stage).Leave)
			s.Target = p.m.Slots[to].Id
		}
	}
	s.Tick++
	return entry
}
