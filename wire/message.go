package wire

import (
	"bytes"

	"junction/api"
)

const (
	headSize = 10 // bytes of a message without data
	maxSlot  = 255
)

// fields tells which fields a kind of message has.
type fields struct{ slot, num, sum, data bool }

// Pack writes a message as bytes.
func Pack(m api.Msg) ([]byte, api.Errno) {
	if !isFormed(m) {
		return nil, api.ErrMsg
	}
	b := addWord(addWord([]byte{byte(m.Kind), byte(m.Slot)}, m.Num), m.Sum)
	return append(b, m.Data...), api.OK
}

// Unpack reads a message.
func Unpack(b []byte) (api.Msg, api.Errno) {
	if len(b) < headSize {
		return api.Msg{}, api.ErrMsg
	}
	m := api.Msg{Kind: int(b[0]), Slot: int(b[1]), Num: word(b[2:]), Sum: word(b[6:]), Data: b[headSize:]}
	if !isFormed(m) {
		return api.Msg{}, api.ErrMsg
	}
	m.Data = bytes.Clone(m.Data)
	return m, api.OK
}

// isFormed tells whether a message has the fields of its kind, and no others.
func isFormed(m api.Msg) bool {
	has, ok := fieldsOf(m.Kind)
	if !ok || m.Slot < 0 || m.Slot > maxSlot {
		return false
	}
	if !has.slot && m.Slot != 0 || !has.num && m.Num != 0 || !has.sum && m.Sum != 0 {
		return false
	}
	if has.data {
		return len(m.Data) > 0 && len(m.Data) <= api.MaxPiece-headSize
	}
	return len(m.Data) == 0
}

// fieldsOf are those of a kind; false: there is no such kind.
func fieldsOf(kind int) (fields, bool) {
	switch kind {
	case api.MsBegin, api.MsTell:
		return fields{slot: true, num: true, sum: true}, true
	case api.MsPiece:
		return fields{num: true, data: true}, true
	case api.MsFinish, api.MsAsk, api.MsDone:
		return fields{}, true
	case api.MsPick, api.MsDrop:
		return fields{slot: true}, true
	case api.MsRefuse:
		return fields{num: true}, true
	}
	return fields{}, false
}

// word reads four bytes, the low one first.
func word(b []byte) uint32 {
	return uint32(b[0]) | uint32(b[1])<<8 | uint32(b[2])<<16 | uint32(b[3])<<24
}

// addWord writes four bytes, the low one first.
func addWord(b []byte, n uint32) []byte {
	return append(b, byte(n), byte(n>>8), byte(n>>16), byte(n>>24))
}
