package station

import (
	"strconv"
	"strings"

	"junction/api"
	"junction/bank"
	"junction/heads"
	"junction/vm"
	"junction/watch"
)

type mode int

const (
	dark mode = iota
	running
	clearing
	tripped
)

var modes = [...]string{dark: "dark", running: "run", clearing: "clear", tripped: "tripped"}

// powered is all that is lost with the power, the line's half aside.
type powered struct {
	bank   *bank.Bank // nil, if the power is off
	ticks  int        // gone by since the power came on
	mode   mode
	alarms []api.Alarm
	fatal  string // what was shown in the tick in which a monitor tripped

	plan    *plan          // the one that runs or is left, else nil
	machine *vm.Machine    // of a plan that runs
	heads   api.Heads      // of a plan that is left
	monitor *watch.Monitor // of both
}

func (p *powered) isOn() bool { return p.bank != nil }

// done are the acts on the flash since this was last asked.
func (p *powered) done() []api.Act {
	if !p.isOn() {
		return nil
	}
	return p.bank.Acts()
}

// drive lets the lamps be told the next tick's letters.
func (p *powered) drive(wanted *plan, bits uint64) picture {
	if p.mode == running && !p.plan.equals(wanted) {
		p.leave()
	}
	if p.mode == clearing {
		if !heads.Settled(p.plan.tables(), p.heads, 0) {
			return p.clear()
		}
		p.halt(dark)
	}
	if p.mode == dark && wanted != nil {
		p.start(wanted)
	}
	if p.mode == running {
		entry := p.machine.Tick(bits)
		return picture{lamps: entry.Heads, stage: entry.Stage}
	}
	return picture{stage: noStage}
}

// leave lets the machine go; its greens end as the heads let them.
func (p *powered) leave() {
	p.mode, p.heads, p.machine = clearing, p.machine.State().Heads, nil
}

// clear takes the plan that is left one tick nearer to all red. The heads are those of its tables, so that nothing is refused.
func (p *powered) clear() picture {
	p.heads, _ = heads.Step(p.plan.tables(), p.heads, 0)
	return picture{lamps: heads.Show(p.heads), stage: noStage}
}

// start lets a plan run. What the loader has let in neither the machine nor the monitor refuses.
func (p *powered) start(wanted *plan) {
	p.mode, p.plan = running, wanted
	p.machine, _ = vm.New(wanted.image)
	p.monitor, _ = watch.New(wanted.tables())
}

// halt lets nothing run any more.
func (p *powered) halt(next mode) {
	p.mode, p.plan, p.machine, p.heads, p.monitor = next, nil, nil, api.Heads{}, nil
}

// see lets the monitor look at the lamps; what the street sees then.
func (p *powered) see(shown picture) picture {
	if p.plan != nil {
		if alarm := p.monitor.Feed(shown.lamps); alarm.Kind != api.AlNone {
			p.alarms, p.fatal = append(p.alarms, alarm), shown.lamps
			p.halt(tripped)
		}
	}
	if p.mode == tripped {
		return picture{lamps: watch.Lamps(p.fatal, true, p.ticks), stage: noStage}
	}
	return shown
}

// log are the alarms, a line each.
func (p *powered) log() string {
	if len(p.alarms) == 0 {
		return "none"
	}
	lines := make([]string, len(p.alarms))
	for i, a := range p.alarms {
		lines[i] = numbers(" ", a.Kind, a.Tick, a.A, a.B)
	}
	return strings.Join(lines, "\n")
}

// report tells how the powered half is.
func (p *powered) report() string {
	return "slots " + orWord(numbers(",", p.bank.Slots()...), "none") +
		" picked " + slotOr(p.bank.Picked(), "auto") +
		" runs " + slotOr(p.slot(), "none") +
		" mode " + modes[p.mode] +
		" ticks " + strconv.Itoa(p.ticks) +
		" alarms " + strconv.Itoa(len(p.alarms))
}

// slot is the one that runs or is left, or noSlot.
func (p *powered) slot() int {
	if p.plan == nil {
		return noSlot
	}
	return p.plan.slot
}

// numbers are these with a sign between each two.
func numbers(between string, list ...int) string {
	texts := make([]string, len(list))
	for i, n := range list {
		texts[i] = strconv.Itoa(n)
	}
	return strings.Join(texts, between)
}

// orWord is a text, or the word in the place of an empty one.
func orWord(text, word string) string {
	if text == "" {
		return word
	}
	return text
}

// slotOr is a slot's number, or the word in the place of none.
func slotOr(slot int, word string) string {
	if slot == noSlot {
		return word
	}
	return strconv.Itoa(slot)
}
