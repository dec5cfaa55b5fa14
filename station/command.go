package station

import (
	"slices"

	"junction/api"
)

// command obeys a line of so many words, its own word counted.
type command struct {
	words int
	more  bool // whether there may be more of them
	obey  func(words []string) (string, api.Fault)
}

// commands are those of the station, by their words.
func (s *Station) commands() map[string]command {
	return map[string]command{
		"flash":   {words: 2, obey: s.doFlash},
		"power":   {words: 2, obey: s.doPower},
		"put":     {words: 2, obey: s.doPut},
		"hex":     {words: 2, obey: s.doHex},
		"drop":    {words: 2, obey: s.doDrop},
		"pick":    {words: 2, obey: s.doPick},
		"clock":   {words: 3, obey: s.doClock},
		"run":     {words: 2, more: true, obey: s.doRun},
		"bytes":   {words: 2, obey: s.doBytes},
		"timeout": {words: 1, obey: s.doTimeout},
		"stick":   {words: 3, obey: s.doStick},
		"free":    {words: 1, obey: s.doFree},
		"reset":   {words: 1, obey: s.doReset},
		"log":     {words: 1, obey: s.doLog},
		"show":    {words: 1, obey: s.doShow},
		"crash":   {words: 3, obey: s.doCrash},
	}
}

// obey does what a line says, and makes it the line ahead.
func (s *Station) obey(line string) (string, api.Fault) {
	if len(line) > api.MaxSource {
		return refused(api.ErrLong)
	}
	words := wordsOf(line)
	switch {
	case s.isOpen() && slices.Equal(words, []string{"."}):
		return s.ahead(s.closeBlock())
	case s.isOpen():
		s.add(line)
		return "", api.Fault{}
	case len(words) == 0:
		return "", api.Fault{}
	}
	return s.ahead(s.command(words))
}

// ahead keeps what a crash would take back of the line that has answered this.
func (s *Station) ahead(answer string, fault api.Fault) (string, api.Fault) {
	if fault.Code != api.ErrScript && fault.Code != api.ErrArg {
		s.turn(s.done())
	}
	return answer, fault
}

// command obeys a line outside a block.
func (s *Station) command(words []string) (string, api.Fault) {
	c, ok := s.commands()[words[0]]
	if !ok || len(words) < c.words || len(words) > c.words && !c.more {
		return refused(api.ErrScript)
	}
	return c.obey(words)
}

func refused(e api.Errno) (string, api.Fault) { return "", api.Fault{Code: e} }

// settled is the answer of a line that has nothing to tell but what came of it.
func settled(e api.Errno) (string, api.Fault) {
	if e != api.OK {
		return refused(e)
	}
	return "ok", api.Fault{}
}

// need is what a line that asks for the power is refused with: first of all its words must be right.
func (s *Station) need(right bool) api.Errno {
	switch {
	case !right:
		return api.ErrArg
	case !s.isOn():
		return api.ErrOff
	}
	return api.OK
}
