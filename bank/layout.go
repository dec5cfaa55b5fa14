package bank

import (
	"bytes"

	"junction/api"
	"junction/rom"
)

const (
	magic      = "JBNK"
	headerSize = 16
	maxGen     = 1<<32 - 2 // one less than what an erased header would tell
)

// The kinds of records.
const (
	kindPut  = 'P'
	kindDrop = 'D'
	kindPick = 'K'
)

const (
	recordSize = 11 // of a record without data
	mark       = 0  // ends a record: its byte is programmed last
	noSlot     = 255
)

// word reads four bytes, the low one first.
func word(b []byte) uint32 {
	return uint32(b[0]) | uint32(b[1])<<8 | uint32(b[2])<<16 | uint32(b[3])<<24
}

// addWord writes four bytes, the low one first.
func addWord(b []byte, n uint32) []byte {
	return append(b, byte(n), byte(n>>8), byte(n>>16), byte(n>>24))
}

// header is that of a half of so many bytes.
func header(generation uint32, half int) []byte {
	b := addWord(addWord([]byte(magic), generation), uint32(half))
	return addWord(b, rom.Sum(b))
}

// generation is that of a half that is live, else 0.
func generation(half []byte) uint32 {
	n := word(half[4:8:8])
	if n > maxGen || !bytes.Equal(half[0:headerSize:headerSize], header(n, len(half))) {
		return 0
	}
	return n
}

// record is one change of the state.
type record struct {
	kind byte
	slot int // none: of a pick of no slot
	data []byte
}

func (r record) size() int { return recordSize + len(r.data) }

// bytes are the record as it is written.
func (r record) bytes() []byte {
	b := make([]byte, 0, r.size())
	b = append(b, r.kind, byte(r.slot)) // none becomes noSlot
	b = addWord(b, uint32(len(r.data)))
	b = addWord(b, sumOf(b[0:6:6], r.data))
	b = append(b, r.data...)
	return append(b, mark)
}

// sumOf is the sum of a record's first bytes and its data. The first bytes have no room to grow, so that they are copied, not grown into what lies behind them.
func sumOf(head, data []byte) uint32 { return rom.Sum(append(head, data...)) }

// recordAt reads the record at a place of a half; false: none is whole there.
func recordAt(half []byte, at int) (record, bool) {
	rest := half[at:]
	if len(rest) < recordSize {
		return record{}, false
	}
	head, sum := rest[0:6:6], rest[6:10:10]
	long := word(head[2:6:6])
	if long > api.MaxData || int(long) > len(rest)-recordSize {
		return record{}, false
	}
	n := 10 + int(long)
	data, end := rest[10:n:n], rest[n]
	if !isKind(head[0], head[1], len(data)) || end != mark || word(sum) != sumOf(head, data) {
		return record{}, false
	}
	return record{kind: head[0], slot: slotOf(head[1]), data: data}, true
}

// isKind tells whether a record of that kind may have that slot and so much data.
func isKind(kind, slot byte, data int) bool {
	switch kind {
	case kindPut:
		return slot < api.MaxSlots && data > 0
	case kindDrop:
		return slot < api.MaxSlots && data == 0
	case kindPick:
		return (slot < api.MaxSlots || slot == noSlot) && data == 0
	}
	return false
}

// slotOf is a slot as a record's byte has it.
func slotOf(b byte) int {
	if b == noSlot {
		return none
	}
	return int(b)
}
