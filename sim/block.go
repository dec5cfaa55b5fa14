package sim

import (
	"junction/api"
	"junction/arith"
)

// block is a list of statements made ready.
type block []statement

type statement struct {
	kind int
	ix   int
	expr value // of a StSet and a StIf alone
	past int   // of a StIf its StElse or StEnd, of a StElse its StEnd: to go on behind it
}

// blockOf makes a sound list of statements ready.
func blockOf(dets []api.Det, list []api.Stmt) block {
	b := make(block, len(list))
	var open []int // of each if that is open the part that is still to be told its end
	for at, s := range list {
		b[at] = statement{kind: s.Kind, ix: s.Ix}
		if len(s.Expr) > 0 {
			b[at].expr = valueOf(dets, s.Expr)
		}
		switch top := len(open) - 1; s.Kind {
		case api.StIf:
			open = append(open, at)
		case api.StElse:
			b[open[top]].past = at
			open[top] = at
		case api.StEnd:
			b[open[top]].past = at
			open = open[:top]
		}
	}
	return b
}

// run runs the statements, each at once: the later ones see what the earlier ones have done.
func (b block) run(now *api.State) {
	for at := 0; at < len(b); at++ {
		switch s := b[at]; s.kind {
		case api.StIf:
			if s.expr(now) == 0 {
				at = s.past
			}
		case api.StElse:
			at = s.past
		default:
			s.do(now)
		}
	}
}

// do is a statement that changes something. A StEnd does not.
func (s statement) do(now *api.State) {
	switch s.kind {
	case api.StSet:
		now.Vars[s.ix] = s.expr(now)
	case api.StReset:
		now.Timers[s.ix].Value = 0
	case api.StRun:
		now.Timers[s.ix].Running = true
	case api.StStop:
		now.Timers[s.ix].Running = false
	case api.StCount:
		now.Counters[s.ix] = arith.Up(now.Counters[s.ix])
	case api.StZero:
		now.Counters[s.ix] = 0
	case api.StClear:
		now.Dets[s.ix] = arith.ClearDet(now.Dets[s.ix])
	}
}
