package station

import (
	"strings"

	"junction/api"
	"junction/bank"
	"junction/driver"
	"junction/wire"
)

func (s *Station) doFlash(words []string) (string, api.Fault) {
	sectors, ok := numberOf(words[1], anyNumber)
	if !ok || s.isOn() {
		return refused(api.ErrArg)
	}
	flash, e := bank.Blank(sectors)
	if e == api.OK {
		s.chip = chip{bytes: flash}
	}
	return settled(e)
}

func (s *Station) doPower(words []string) (string, api.Fault) {
	switch words[1] {
	case "on":
		return settled(s.switchOn())
	case "off":
		if !s.isOn() {
			return refused(api.ErrOff)
		}
		s.switchOff()
		return settled(api.OK)
	}
	return refused(api.ErrArg)
}

func (s *Station) switchOn() api.Errno {
	switch {
	case s.isOn():
		return api.ErrArg
	case !s.hasFlash():
		return api.ErrOff
	}
	opened, e := bank.Open(s.now())
	if e == api.OK {
		s.powered, s.line = powered{bank: opened}, line{end: wire.NewEnd()}
	}
	return e
}

func (s *Station) switchOff() { s.powered, s.line = powered{}, line{} }

func (s *Station) doPut(words []string) (string, api.Fault) { return s.openBlock(words, compiled) }

func (s *Station) doHex(words []string) (string, api.Fault) { return s.openBlock(words, burnt) }

// openBlock lets the lines that follow be a text.
func (s *Station) openBlock(words []string, read func(int, string) ([]byte, api.Fault)) (string, api.Fault) {
	slot, ok := numberOf(words[1], anyNumber)
	if e := s.need(ok); e != api.OK {
		return refused(e)
	}
	if slot > tableSlot {
		return refused(api.ErrSlot)
	}
	s.block = block{read: read, target: slot}
	return "", api.Fault{}
}

// closeBlock puts what a block brings into its slot.
func (s *Station) closeBlock() (string, api.Fault) {
	slot, data, fault := s.shut()
	if fault.Code != api.OK {
		return "", fault
	}
	return settled(s.bank.Put(slot, data))
}

func (s *Station) doDrop(words []string) (string, api.Fault) {
	slot, ok := numberOf(words[1], anyNumber)
	if e := s.need(ok); e != api.OK {
		return refused(e)
	}
	return settled(s.bank.Drop(slot))
}

func (s *Station) doPick(words []string) (string, api.Fault) {
	slot, ok := numberOf(words[1], anyNumber)
	isAuto := words[1] == "auto"
	if e := s.need(ok || isAuto); e != api.OK {
		return refused(e)
	}
	if isAuto {
		return settled(s.bank.Pick(noSlot))
	}
	return settled(s.pick(slot))
}

func (s *Station) doClock(words []string) (string, api.Fault) {
	day, isDay := dayOf(words[1])
	minute, isMinute := minuteOf(words[2])
	if !isDay || !isMinute {
		return refused(api.ErrArg)
	}
	s.set(dayMinutes*day + minute)
	return settled(api.OK)
}

func (s *Station) doRun(words []string) (string, api.Fault) {
	if !s.isOn() {
		return refused(api.ErrOff)
	}
	ticks, e := driver.Inputs(strings.Join(words[1:], " "))
	if e != api.OK {
		return refused(e)
	}
	wanted := s.wanted()
	var seen trace
	for _, bits := range ticks {
		number := s.ticks
		seen.add(number, s.tick(wanted, bits))
	}
	return seen.text(), api.Fault{}
}

// tick is one second of the station; what is seen in it.
func (s *Station) tick(wanted func(minute int) *plan, bits uint64) picture {
	told := s.drive(wanted(s.minute()), bits)
	seen := s.see(picture{lamps: s.shown(told.lamps), stage: told.stage})
	s.ticks++
	s.advance()
	return seen
}

func (s *Station) doBytes(words []string) (string, api.Fault) {
	b, ok := bytesOf(words[1])
	if e := s.need(ok); e != api.OK {
		return refused(e)
	}
	s.come(b)
	return s.out(), api.Fault{}
}

func (s *Station) doTimeout([]string) (string, api.Fault) {
	if !s.isOn() {
		return refused(api.ErrOff)
	}
	s.end.Timeout()
	return s.out(), api.Fault{}
}

func (s *Station) doStick(words []string) (string, api.Fault) {
	group, ok := numberOf(words[1], api.MaxGroups-1)
	letter := words[2]
	if !ok || len(letter) != 1 || !strings.Contains("rlga", letter) {
		return refused(api.ErrArg)
	}
	s.stick(group, letter[0])
	return settled(api.OK)
}

func (s *Station) doFree([]string) (string, api.Fault) {
	s.free()
	return settled(api.OK)
}

func (s *Station) doReset([]string) (string, api.Fault) {
	if !s.isOn() {
		return refused(api.ErrOff)
	}
	if s.mode != tripped {
		return refused(api.ErrArg)
	}
	s.halt(dark)
	return settled(api.OK)
}

func (s *Station) doLog([]string) (string, api.Fault) {
	if !s.isOn() {
		return refused(api.ErrOff)
	}
	return s.log(), api.Fault{}
}

func (s *Station) doShow([]string) (string, api.Fault) {
	if !s.isOn() {
		return "power off clock " + s.date(), api.Fault{}
	}
	return "power on " + s.report() + " clock " + s.date(), api.Fault{}
}

func (s *Station) doCrash(words []string) (string, api.Fault) {
	steps, isSteps := numberOf(words[1], anyNumber)
	torn, isTorn := numberOf(words[2], maxByte)
	if e := s.need(isSteps && isTorn); e != api.OK {
		return refused(e)
	}
	s.chip = chip{bytes: s.cut(steps, byte(torn))}
	s.switchOff()
	return settled(api.OK)
}
