package bank_test

import (
	"bytes"
	"encoding/binary"
	"hash/crc32"

	"junction/api"
)

// The second way of all answers: the flash alone is kept, and read anew, from its beginning, ahead of everything.

// view is what a flash tells.
type view struct {
	plain
	half   int    // H
	active int    // -1: no half is live
	gen    uint32 // of the active half
	end    int
	clean  bool
}

// isFlash goes by the list of lengths.
func isFlash(flash []byte) bool {
	for sectors := 4; sectors <= 4096; sectors++ {
		if len(flash) == sectors*1024 {
			return true
		}
	}
	return false
}

// modelView reads a flash.
func modelView(flash []byte) view {
	v := view{plain: held(), half: len(flash) / 2048 * 1024, active: -1}
	for i := range 2 {
		half := flash[i*v.half:][:v.half]
		gen := binary.LittleEndian.Uint32(half[4:])
		if string(half[:4]) == "JBNK" && gen >= 1 && gen <= maxGen &&
			binary.LittleEndian.Uint32(half[8:]) == uint32(v.half) &&
			binary.LittleEndian.Uint32(half[12:]) == crc32.ChecksumIEEE(half[:12]) &&
			(v.active == -1 || gen > v.gen) {
			v.active, v.gen = i, gen
		}
	}
	if v.active == -1 {
		return v
	}
	half := flash[v.active*v.half:][:v.half]
	v.end = 16
	for size := modelRecord(&v.plain, half[v.end:]); size > 0; size = modelRecord(&v.plain, half[v.end:]) {
		v.end += size
	}
	v.clean = bytes.Equal(half[v.end:], full(v.half-v.end, 255))
	return v
}

// modelRecord takes the record that bytes begin with, and answers its size; 0: none is whole.
func modelRecord(p *plain, b []byte) int {
	if len(b) < 11 {
		return 0
	}
	kind, slot, long := b[0], int(b[1]), uint64(binary.LittleEndian.Uint32(b[2:]))
	if 11+long > uint64(len(b)) || b[10+long] != 0 {
		return 0
	}
	data := b[10 : 10+long]
	sum := crc32.NewIEEE()
	sum.Write(b[:6])
	sum.Write(data)
	if sum.Sum32() != binary.LittleEndian.Uint32(b[6:]) {
		return 0
	}
	switch {
	case kind == 0x50 && slot <= 8 && long >= 1 && long <= 1048576:
		p.Held[slot] = string(data)
	case kind == 0x44 && slot <= 8 && long == 0:
		delete(p.Held, slot)
		if p.Picked == slot {
			p.Picked = -1
		}
	case kind == 0x4B && (slot <= 8 || slot == 255) && long == 0:
		p.Picked = -1
		if _, ok := p.Held[slot]; ok {
			p.Picked = slot
		}
	default:
		return 0
	}
	return 11 + int(long)
}

// size is that of the state.
func (p plain) size() int {
	n := 16
	for _, data := range p.Held {
		n += 11 + len(data)
	}
	if p.Picked != -1 {
		n += 11
	}
	return n
}

// modelBytes is a record as bytes; of a slot of -1 the byte 255.
func modelBytes(kind byte, slot int, data string) []byte {
	b := binary.LittleEndian.AppendUint32([]byte{kind, byte(slot)}, uint32(len(data)))
	sum := crc32.ChecksumIEEE([]byte(string(b) + data))
	return append(append(binary.LittleEndian.AppendUint32(b, sum), data...), 0)
}

// modelHeader is a header as bytes.
func modelHeader(gen uint32, half int) []byte {
	b := binary.LittleEndian.AppendUint32([]byte("JBNK"), gen)
	b = binary.LittleEndian.AppendUint32(b, uint32(half))
	return binary.LittleEndian.AppendUint32(b, crc32.ChecksumIEEE(b))
}

func program(off int, data []byte) api.Act {
	return api.Act{Kind: api.AcProgram, Off: off, Data: data}
}

// modelErases are the erases of a half that begins at from.
func modelErases(flash []byte, from, half int) []api.Act {
	var acts []api.Act
	for off := from; off < from+half; off += 1024 {
		if !bytes.Equal(flash[off:off+1024], full(1024, 255)) {
			acts = append(acts, api.Act{Kind: api.AcErase, Off: off})
		}
	}
	return acts
}

// modelMove are the acts that write a state into the half that is not active.
func modelMove(flash []byte, v view, p plain) []api.Act {
	from := v.half * (1 - v.active)
	acts := modelErases(flash, from, v.half)
	off := from + 16
	for slot := range 9 {
		if data, ok := p.Held[slot]; ok {
			acts = append(acts, program(off, modelBytes('P', slot, data)))
			off += 11 + len(data)
		}
	}
	if p.Picked != -1 {
		acts = append(acts, program(off, modelBytes('K', p.Picked, "")))
	}
	return append(acts, program(from, modelHeader(v.gen+1, v.half)))
}

// modelOpen are the acts of Open, or its error.
func modelOpen(flash []byte) ([]api.Act, api.Errno) {
	if !isFlash(flash) {
		return nil, api.ErrDisk
	}
	v := modelView(flash)
	switch {
	case v.active == -1:
		return append(modelErases(flash, 0, v.half), program(0, modelHeader(1, v.half))), api.OK
	case v.clean:
		return nil, api.OK
	case v.gen == maxGen:
		return nil, api.ErrWorn
	}
	return modelMove(flash, v, v.plain), api.OK
}

// modelCall are the acts of a call on a bank with that flash, or its error.
func modelCall(flash []byte, c call) ([]api.Act, api.Errno) {
	v := modelView(flash)
	next := modelView(flash).plain
	_, holds := v.Held[c.slot]
	none := c.kind == 'K' && c.slot == -1
	data := ""
	switch {
	case (c.slot < 0 || c.slot > 8) && !none:
		return nil, api.ErrSlot
	case c.kind == 'P' && (len(c.data) == 0 || len(c.data) > 1048576):
		return nil, api.ErrData
	case c.kind != 'P' && !none && !holds:
		return nil, api.ErrEmpty
	case c.kind == 'D' && v.Picked == c.slot:
		return nil, api.ErrInUse
	case c.kind == 'K' && v.Picked == c.slot:
		return nil, api.OK
	case c.kind == 'P':
		data = string(c.data)
		next.Held[c.slot] = data
	case c.kind == 'D':
		delete(next.Held, c.slot)
	case c.kind == 'K':
		next.Picked = c.slot
	}
	switch {
	case next.size() > v.half:
		return nil, api.ErrSpace
	case v.end+11+len(data) <= v.half:
		return []api.Act{program(v.active*v.half+v.end, modelBytes(c.kind, c.slot, data))}, api.OK
	case v.gen == maxGen:
		return nil, api.ErrWorn
	}
	return modelMove(flash, v, next), api.OK
}

// modelPlay goes step by step and bit by bit.
func modelPlay(flash []byte, acts []api.Act, n int, torn byte) ([]byte, api.Errno) {
	if !isFlash(flash) {
		return nil, api.ErrDisk
	}
	type step struct {
		off  int
		data byte
		to   byte // the bit that it makes
	}
	var all []step
	for _, a := range acts {
		switch {
		case a.Kind == 1 && len(a.Data) == 0 && a.Off >= 0 && a.Off < len(flash) && a.Off%1024 == 0:
			for i := range 1024 {
				all = append(all, step{a.Off + i, 0, 1})
			}
		case a.Kind == 2 && a.Off >= 0 && a.Off <= len(flash) && a.Off+len(a.Data) <= len(flash):
			for i, x := range a.Data {
				all = append(all, step{a.Off + i, x, 0})
			}
		default:
			return nil, api.ErrAct
		}
	}
	out := append([]byte(nil), flash...)
	for i, s := range all {
		if i > max(n, 0) {
			break
		}
		for bit := range 8 {
			done := i < n || torn>>bit&1 == 1
			if done && s.data>>bit&1 == 0 {
				out[s.off] = out[s.off]&^(1<<bit) | s.to<<bit
			}
		}
	}
	return out, api.OK
}
