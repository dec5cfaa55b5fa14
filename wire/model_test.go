package wire_test

import (
	"bytes"
	"encoding/binary"

	"junction/api"
)

// The second way: sums bit by bit, stuffing by replacement, and an end that numbers all data from 0 on without end and keeps all that it was ever given.

// modelSum shifts bit by bit, as the chapter tells it.
func modelSum(b []byte) uint16 {
	sum := uint16(0xFFFF)
	for _, x := range b {
		for bit := range 8 {
			low := sum&1 ^ uint16(x)>>bit&1
			sum >>= 1
			if low == 1 {
				sum ^= 0x8408
			}
		}
	}
	return ^sum
}

func modelStuff(b []byte) []byte {
	b = bytes.ReplaceAll(b, []byte{0x7D}, []byte{0x7D, 0x5D})
	return bytes.ReplaceAll(b, []byte{0x7E}, []byte{0x7D, 0x5E})
}

// modelUnstuff: false, if b is nothing that is stuffed.
func modelUnstuff(b []byte) ([]byte, bool) {
	plain := bytes.ReplaceAll(b, []byte{0x7D, 0x5E}, []byte{0x7E})
	plain = bytes.ReplaceAll(plain, []byte{0x7D, 0x5D}, []byte{0x7D})
	return plain, bytes.Equal(modelStuff(plain), b)
}

// modelFrames are all control bytes that there are.
func modelFrames() map[byte]api.Frame {
	all := map[byte]api.Frame{}
	for nr := range 8 {
		for ns := range 8 {
			all[byte(2*ns+32*nr)] = api.Frame{Kind: api.FrData, Ns: ns, Nr: nr}
		}
		all[byte(1+32*nr)] = api.Frame{Kind: api.FrReady, Nr: nr}
		all[byte(9+32*nr)] = api.Frame{Kind: api.FrAgain, Nr: nr}
	}
	return all
}

var controls = modelFrames()

// modelFrame looks for the control byte that means the frame.
func modelFrame(f api.Frame) ([]byte, api.Errno) {
	for control, g := range controls {
		if f.Kind == g.Kind && f.Ns == g.Ns && f.Nr == g.Nr && (len(f.Data) == 0 || f.Kind == api.FrData && len(f.Data) <= 256) {
			return framed(append([]byte{control}, f.Data...)...), api.OK
		}
	}
	return nil, api.ErrFrame
}

func modelUnframe(b []byte) (api.Frame, api.Errno) {
	body, ok := modelUnstuff(b)
	if !ok {
		return api.Frame{}, api.ErrStuff
	}
	if len(body) < 3 || len(body) > 259 {
		return api.Frame{}, api.ErrFrame
	}
	n := len(body) - 2
	if modelSum(body[:n]) != binary.LittleEndian.Uint16(body[n:]) {
		return api.Frame{}, api.ErrSum16
	}
	f, ok := controls[body[0]]
	if !ok || f.Kind != api.FrData && n > 1 {
		return api.Frame{}, api.ErrFrame
	}
	f.Data = body[1:n]
	return f, api.OK
}

// modelTable is the chapter's: a letter for each field that a kind has.
var modelTable = map[int]string{1: "snu", 2: "nd", 3: "", 4: "s", 5: "s", 6: "", 10: "", 11: "n", 12: "snu"}

func modelFormed(m api.Msg) bool {
	has, ok := modelTable[m.Kind]
	least := map[bool]int{true: 1, false: 0}[m.Kind == 2]
	most := map[bool]int{true: 246, false: 0}[m.Kind == 2]
	for letter, used := range map[string]bool{"s": m.Slot != 0, "n": m.Num != 0, "u": m.Sum != 0} {
		if used && !bytes.Contains([]byte(has), []byte(letter)) {
			return false
		}
	}
	return ok && m.Slot >= 0 && m.Slot <= 255 && len(m.Data) >= least && len(m.Data) <= most
}

func modelPack(m api.Msg) ([]byte, api.Errno) {
	if !modelFormed(m) {
		return nil, api.ErrMsg
	}
	b := []byte{byte(m.Kind), byte(m.Slot)}
	b = binary.LittleEndian.AppendUint32(b, m.Num)
	b = binary.LittleEndian.AppendUint32(b, m.Sum)
	return append(b, m.Data...), api.OK
}

func modelUnpack(b []byte) (api.Msg, api.Errno) {
	if len(b) < 10 {
		return api.Msg{}, api.ErrMsg
	}
	m := api.Msg{Kind: int(b[0]), Slot: int(b[1]), Num: binary.LittleEndian.Uint32(b[2:]), Sum: binary.LittleEndian.Uint32(b[6:]), Data: b[10:]}
	if !modelFormed(m) {
		return api.Msg{}, api.ErrMsg
	}
	return m, api.OK
}

// model is an end. Data are counted from 0 on, never round.
type model struct {
	given         [][]byte
	acked         int // data that are acknowledged: a beginning of given
	sent          int // data that need not go out at the next Poll
	top           int // data that have gone out at least once
	got           [][]byte
	out           int // data of got that are given out
	asked         bool
	answer, again bool // what it owes
	dropped       int
	begun         bool   // a flag has come
	rest          []byte // bytes behind the last flag
}

func (m *model) send(data []byte) api.Errno {
	if len(data) > 256 {
		return api.ErrFrame
	}
	if len(m.given)-m.acked == 1024 {
		return api.ErrQueue
	}
	m.given = append(m.given, bytes.Clone(data))
	return api.OK
}

func (m *model) poll() []byte {
	var frames [][]byte
	nr := len(m.got) % 8
	if m.again {
		frames = append(frames, againFrame(nr))
	}
	for i, data := range m.given {
		if i >= m.sent && i < m.acked+7 {
			frames = append(frames, dataFrame(i%8, nr, data...))
			m.sent = i + 1
		}
	}
	if m.answer && len(frames) == 0 {
		frames = append(frames, readyFrame(nr))
	}
	m.top = max(m.top, m.sent)
	m.answer, m.again = false, false
	return join(frames...)
}

func (m *model) timeout() { m.sent = m.acked }

func (m *model) take() [][]byte {
	list := m.got[m.out:]
	m.out = len(m.got)
	return list
}

// feed cuts all that has come into the pieces between flags.
func (m *model) feed(b []byte) {
	pieces := bytes.Split(append(m.rest, b...), []byte{0x7E})
	m.rest = bytes.Clone(pieces[len(pieces)-1])
	for _, piece := range pieces[:len(pieces)-1] {
		if m.begun {
			m.piece(piece)
		}
		m.begun = true
	}
}

func (m *model) piece(b []byte) {
	if len(b) == 0 {
		return
	}
	f, e := modelUnframe(b)
	if len(b) > 518 || e != api.OK {
		m.dropped++
		return
	}
	upTo := m.acked
	for upTo%8 != f.Nr {
		upTo++
	}
	if upTo > m.top {
		m.dropped++
		return
	}
	m.acked = upTo
	m.sent = max(m.sent, upTo)
	if f.Kind == api.FrAgain {
		m.sent = m.acked
	}
	if f.Kind != api.FrData {
		return
	}
	m.answer = true
	if f.Ns == len(m.got)%8 {
		m.got = append(m.got, f.Data)
		m.asked = false
		return
	}
	m.dropped++
	m.again = m.again || !m.asked
	m.asked = true
}
