package station

import (
	"strings"

	"junction/api"
	"junction/rom"
	"junction/wire"
)

// noneTold is the slot of a message that means none.
const noneTold = 255

// line is the line's half: the station's end of it, and the upload that is going on.
type line struct {
	end    *wire.End // nil, if the power is off
	upload *upload   // nil, if none is going on
}

// upload is data for a slot that come piece by piece.
type upload struct {
	slot int
	size uint32
	sum  uint32
	data []byte
}

func (u *upload) isWhole() bool {
	return uint32(len(u.data)) == u.size && rom.Sum(u.data) == u.sum
}

// begin forgets an upload that was going on, if nothing is wrong with the new one.
func (l *line) begin(m api.Msg) api.Errno {
	switch {
	case m.Slot > tableSlot:
		return api.ErrSlot
	case m.Num == 0 || m.Num > api.MaxData:
		return api.ErrData
	}
	l.upload = &upload{slot: m.Slot, size: m.Num, sum: m.Sum}
	return api.OK
}

// piece puts data behind those that have come. Neither number is above MaxData, so that their sum does not wrap.
func (l *line) piece(m api.Msg) api.Errno {
	u := l.upload
	if u == nil || m.Num != uint32(len(u.data)) || m.Num+uint32(len(m.Data)) > u.size {
		return api.ErrUpload
	}
	u.data = append(u.data, m.Data...)
	return api.OK
}

// finish ends the upload, whatever comes of it; nil: none has come whole.
func (l *line) finish() *upload {
	u := l.upload
	l.upload = nil
	if u == nil || !u.isWhole() {
		return nil
	}
	return u
}

// send lets a message go out; where the queue is full it is lost.
func (l *line) send(m api.Msg) {
	// Pack refuses no message that a station makes.
	data, _ := wire.Pack(m)
	l.end.Send(data)
}

// out is what goes out now, as text.
func (l *line) out() string {
	var text strings.Builder
	for _, b := range l.end.Poll() {
		text.WriteByte(hexDigits[b>>4])
		text.WriteByte(hexDigits[b&15])
	}
	return orWord(text.String(), "-")
}

// come takes bytes from the control room, and answers each message that is whole by now.
func (s *Station) come(b []byte) {
	s.end.Feed(b)
	for _, data := range s.end.Take() {
		s.send(s.answer(data))
	}
}

// answer does what a message asks for. What is no message has the kind 0.
func (s *Station) answer(data []byte) api.Msg {
	m, _ := wire.Unpack(data)
	switch m.Kind {
	case api.MsBegin:
		return outcome(s.begin(m))
	case api.MsPiece:
		return outcome(s.piece(m))
	case api.MsFinish:
		return outcome(s.store(s.finish()))
	case api.MsPick:
		return outcome(s.pickTold(m.Slot))
	case api.MsDrop:
		return outcome(s.bank.Drop(m.Slot))
	case api.MsAsk:
		return s.tell()
	}
	return outcome(api.ErrMsg)
}

// outcome is the answer to a message that asks for no more than that something be done.
func outcome(e api.Errno) api.Msg {
	if e != api.OK {
		return api.Msg{Kind: api.MsRefuse, Num: uint32(e)}
	}
	return api.Msg{Kind: api.MsDone}
}

// store keeps an upload that has come whole; nil: none has.
func (p *powered) store(u *upload) api.Errno {
	switch {
	case u == nil:
		return api.ErrUpload
	case refusal(u.slot, u.data).Code != api.OK:
		return api.ErrRefused
	}
	return p.bank.Put(u.slot, u.data)
}

func (p *powered) pickTold(slot int) api.Errno {
	if slot == noneTold {
		return p.bank.Pick(noSlot)
	}
	return p.pick(slot)
}

// pick lets a plan's slot alone be picked.
func (p *powered) pick(slot int) api.Errno {
	if slot >= tableSlot {
		return api.ErrSlot
	}
	return p.bank.Pick(slot)
}

func (p *powered) tell() api.Msg {
	slot := p.slot()
	if slot == noSlot {
		slot = noneTold
	}
	return api.Msg{Kind: api.MsTell, Slot: slot, Num: uint32(p.ticks), Sum: uint32(len(p.alarms))}
}
