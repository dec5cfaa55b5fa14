package rom_test

import (
	"bytes"
	"encoding/binary"
	"encoding/hex"
	"fmt"
	"hash/crc32"
	"regexp"
	"slices"
	"strings"

	"junction/api"
	"junction/check"
	"junction/lex"
)

// This file is a second way of the chapter's rules.

// argument is a row of the chapter's table of instructions: the form of an Arg, and its range.
type argument struct {
	form   string
	lo, hi int64
}

// arguments is that table by the instructions' numbers.
func arguments() map[int]argument {
	table := map[int]argument{}
	row := func(a argument, ops ...int) {
		for _, op := range ops {
			table[op] = a
		}
	}
	row(argument{"", 0, 0}, 20, 21, 22, 30, 31, 32, 33, 34, 35, 36, 40, 41, 42, 43, 44, 45, 50, 51, api.InEnd, api.InElapsed)
	row(argument{"u16", 0, 65535}, api.InConst)
	row(argument{"i8", -128, 127}, api.InSmall)
	row(argument{"u8", 0, 1}, api.InTruth)
	row(argument{"u8", 0, 255}, api.InVar, api.InTimer, api.InCounter, api.InDet, api.InGreen, api.InRed, api.InStore, api.InReset, api.InZero, api.InRun, api.InStop, api.InCount, api.InClear, api.InPick)
	row(argument{"u32", 0, 65535}, api.InIf, api.InJump, api.InAnd, api.InOr)
	return table
}

// unformed is the number of the first of the chapter's points that an image fails; 0 of a formed one.
func unformed(m api.Image) int {
	isTime := func(n int) bool { return n >= 0 && n <= 3600 }
	isPlace := func(n int) bool { return n >= 0 && n < 65536 }
	if lex.KindOf(m.Name) != api.TkName {
		return 1
	}
	var words []string
	for _, g := range m.Tables.Groups {
		words = append(words, g.Name)
	}
	for _, d := range m.Dets {
		words = append(words, d.Name)
		if !isTime(d.Delay) || !isTime(d.Hold) {
			return 2
		}
	}
	for i, w := range words {
		if lex.KindOf(w) != api.TkName || slices.Contains(words[:i], w) {
			return 2
		}
	}
	if !check.Grid(m.Tables) || len(m.Dets) > 64 {
		return 2
	}
	if m.Timers < 0 || m.Timers > 64 || m.Counters < 0 || m.Counters > 64 || len(m.Vars) > 64 {
		return 3
	}
	if len(m.Pool) > 16384 {
		return 4
	}
	for i, s := range m.Slots {
		if s.Id < 0 || s.Id > 255 || i > 0 && s.Id <= m.Slots[i-1].Id || !isPlace(s.Enter) || !isPlace(s.Tick) || !isPlace(s.Leave) {
			return 5
		}
		for g := range 64 {
			if g >= len(m.Tables.Groups) && s.Green&(1<<g) != 0 {
				return 5
			}
		}
	}
	if len(m.Slots) < 1 || len(m.Slots) > 256 || m.Start < 0 || m.Start >= len(m.Slots) {
		return 5
	}
	if m.Depth < 0 || m.Depth > 65535 {
		return 6
	}
	table := arguments()
	for _, in := range m.Code {
		a, known := table[in.Op]
		if !known || int64(in.Arg) < a.lo || int64(in.Arg) > a.hi {
			return 7
		}
	}
	if len(m.Code) > 65536 {
		return 7
	}
	return 0
}

// laid is values of the library's types, low byte first.
func laid(values ...any) []byte {
	var b bytes.Buffer
	for _, v := range values {
		if name, ok := v.(string); ok {
			v = append([]byte{byte(len(name))}, name...)
		}
		if err := binary.Write(&b, binary.LittleEndian, v); err != nil {
			panic(err)
		}
	}
	return b.Bytes()
}

// encoded is the bytes of a formed image.
func encoded(m api.Image) []byte {
	groups := laid(uint8(len(m.Tables.Groups)))
	for _, g := range m.Tables.Groups {
		groups = append(groups, laid(g.Name, uint8(g.Sort), uint16(g.Min), uint8(g.Amber), uint8(g.Lead))...)
	}
	conflicts := laid(uint16(len(m.Tables.Conflicts)))
	for _, c := range m.Tables.Conflicts {
		conflicts = append(conflicts, laid(uint8(c.A), uint8(c.B), uint16(c.AB), uint16(c.BA))...)
	}
	dets := laid(uint8(len(m.Dets)))
	for _, d := range m.Dets {
		dets = append(dets, laid(d.Name, d.Latch, uint16(d.Delay), uint16(d.Hold))...)
	}
	numbers := laid(uint8(m.Timers), uint8(m.Counters), uint8(len(m.Vars)), m.Vars)
	pool := laid(uint16(len(m.Pool)), m.Pool)
	slots := laid(uint16(m.Start), uint16(len(m.Slots)))
	for _, s := range m.Slots {
		slots = append(slots, laid(uint8(s.Id), s.Green, uint32(s.Enter), uint32(s.Tick), uint32(s.Leave))...)
	}
	code, table := laid(uint16(m.Depth), uint32(len(m.Code))), arguments()
	for _, in := range m.Code {
		code = append(code, byte(in.Op))
		switch table[in.Op].form {
		case "u8":
			code = append(code, laid(uint8(in.Arg))...)
		case "i8":
			code = append(code, laid(int8(in.Arg))...)
		case "u16":
			code = append(code, laid(uint16(in.Arg))...)
		case "u32":
			code = append(code, laid(uint32(in.Arg))...)
		}
	}
	var body []byte
	for i, content := range [][]byte{laid(m.Name), groups, conflicts, dets, numbers, pool, slots, code} {
		body = append(body, laid(uint8(i+1), uint32(len(content)), content)...)
	}
	return sealed(body)
}

// decoder reads bytes, and goes on with zeros behind the first fault: that one is the answer.
type decoder struct {
	b       []byte
	at, end int
	fault   api.Fault
	seen    []string
}

func (d *decoder) tell(e api.Errno, place int) {
	if d.fault.Code == api.OK {
		d.fault = at(e, place)
	}
}

func (d *decoder) piece(width int) []byte {
	if d.fault.Code == api.OK && d.at+width > d.end {
		d.tell(api.ErrCut, d.end)
	}
	if d.fault.Code != api.OK {
		return make([]byte, max(width, 8))
	}
	d.at += width
	return append(slices.Clone(d.b[d.at-width:d.at]), make([]byte, 8)...)
}

func (d *decoder) u64() uint64 { return binary.LittleEndian.Uint64(d.piece(8)) }
func (d *decoder) i32() int32  { return int32(binary.LittleEndian.Uint32(d.piece(4))) }

// ranged is a number without a sign that is lo to hi.
func (d *decoder) ranged(width, lo, hi int) int {
	place := d.at
	n := int(binary.LittleEndian.Uint64(d.piece(width)))
	if n < lo || n > hi {
		d.tell(api.ErrField, place)
	}
	if d.fault.Code != api.OK {
		return 0
	}
	return n
}

func (d *decoder) name(own bool) string {
	place := d.at
	length := d.ranged(1, 1, 32)
	name := string(d.piece(length)[:length])
	if lex.KindOf(name) != api.TkName || own && slices.Contains(d.seen, name) {
		d.tell(api.ErrField, place)
	}
	if own {
		d.seen = append(d.seen, name)
	}
	return name
}

func (d *decoder) head() {
	n := len(d.b)
	for i, c := range []byte{0x4A, 0x53, 0x50, 0x1A} {
		if i >= n {
			d.tell(api.ErrCut, n)
		} else if d.b[i] != c {
			d.tell(api.ErrMagic, i)
		}
	}
	if n < 14 {
		d.tell(api.ErrCut, n)
		return
	}
	if d.b[4] != 1 || d.b[5] != 0 {
		d.tell(api.ErrVersion, 4)
	}
	if length := int(binary.LittleEndian.Uint32(d.b[6:])); length > n {
		d.tell(api.ErrCut, n)
	} else if length < n {
		d.tell(api.ErrRest, length)
	}
	if crc32.ChecksumIEEE(d.b[:n-4]) != binary.LittleEndian.Uint32(d.b[n-4:]) {
		d.tell(api.ErrSum, n-4)
	}
	d.at = 10
}

// decoded is the image of bytes, or the first fault.
func decoded(b []byte) (api.Image, api.Fault) {
	d, m := &decoder{b: b}, api.Image{}
	d.head()
	e := len(b) - 4
	for i := range 8 {
		d.end = e
		d.ranged(1, i+1, i+1)
		length := int(uint32(d.i32()))
		if d.fault.Code == api.OK && d.at+length > e {
			d.tell(api.ErrCut, e)
		}
		d.end = d.at + length
		d.content(i+1, &m)
		if d.at < d.end {
			d.tell(api.ErrRest, d.at)
		}
	}
	if d.at < e {
		d.tell(api.ErrRest, d.at)
	}
	if d.fault.Code != api.OK {
		return api.Image{}, d.fault
	}
	return m, api.Fault{}
}

func (d *decoder) content(number int, m *api.Image) {
	switch number {
	case 1:
		m.Name = d.name(false)
	case 2:
		for range d.ranged(1, 0, 64) {
			m.Tables.Groups = append(m.Tables.Groups, api.Group{Name: d.name(true), Sort: d.ranged(1, 1, 2), Min: d.ranged(2, 1, 3600), Amber: d.ranged(1, 0, 60), Lead: d.ranged(1, 0, 60)})
		}
	case 3:
		pair := -1
		for range d.ranged(2, 0, 2016) {
			a, place := d.ranged(1, 0, len(m.Tables.Groups)-1), d.at
			b := d.ranged(1, 0, len(m.Tables.Groups)-1)
			if b <= a || a*64+b <= pair {
				d.tell(api.ErrField, place)
			}
			pair = a*64 + b
			m.Tables.Conflicts = append(m.Tables.Conflicts, api.Conflict{A: a, B: b, AB: d.ranged(2, 0, 3600), BA: d.ranged(2, 0, 3600)})
		}
	case 4:
		for range d.ranged(1, 0, 64) {
			m.Dets = append(m.Dets, api.Det{Name: d.name(true), Latch: d.ranged(1, 0, 1) == 1, Delay: d.ranged(2, 0, 3600), Hold: d.ranged(2, 0, 3600)})
		}
	case 5:
		m.Timers, m.Counters = d.ranged(1, 0, 64), d.ranged(1, 0, 64)
		for range d.ranged(1, 0, 64) {
			m.Vars = append(m.Vars, d.i32())
		}
	case 6:
		for range d.ranged(2, 0, 16384) {
			m.Pool = append(m.Pool, d.i32())
		}
	case 7:
		d.slots(m)
	case 8:
		m.Depth = d.ranged(2, 0, 65535)
		for range d.ranged(4, 0, 65536) {
			m.Code = append(m.Code, d.instr())
		}
	}
}

func (d *decoder) slots(m *api.Image) {
	place := d.at
	m.Start = d.ranged(2, 0, 65535)
	count := d.ranged(2, 1, 256)
	if m.Start >= count {
		d.tell(api.ErrField, place)
	}
	least := 0
	for range count {
		id, place := d.ranged(1, least, 255), d.at
		green := d.u64()
		for g := len(m.Tables.Groups); g < 64; g++ {
			if green&(1<<g) != 0 {
				d.tell(api.ErrField, place)
			}
		}
		m.Slots = append(m.Slots, api.Slot{Id: id, Green: green, Enter: d.ranged(4, 0, 65535), Tick: d.ranged(4, 0, 65535), Leave: d.ranged(4, 0, 65535)})
		least = id + 1
	}
}

var argumentTable = arguments()

func (d *decoder) instr() api.Instr {
	place := d.at
	op := d.ranged(1, 0, 255)
	a, known := argumentTable[op]
	if !known {
		d.tell(api.ErrField, place)
	}
	switch a.form {
	case "i8":
		return api.Instr{Op: op, Arg: int32(int8(d.ranged(1, 0, 255)))}
	case "u8":
		return api.Instr{Op: op, Arg: int32(d.ranged(1, 0, int(a.hi)))}
	case "u16":
		return api.Instr{Op: op, Arg: int32(d.ranged(2, 0, int(a.hi)))}
	case "u32":
		return api.Instr{Op: op, Arg: int32(d.ranged(4, 0, int(a.hi)))}
	}
	return api.Instr{Op: op}
}

// hexed is the records of bytes.
func hexed(b []byte) string {
	var out strings.Builder
	for place, bank := 0, 0; place < len(b); place += 16 {
		if place>>16 != bank {
			bank = place >> 16
			fmt.Fprintln(&out, record(4, 0, byte(bank>>8), byte(bank)))
		}
		fmt.Fprintln(&out, record(0, place&0xFFFF, b[place:min(place+16, len(b))]...))
	}
	return out.String() + endRecord
}

var wrongDigit = regexp.MustCompile(`[^0-9A-Fa-f]`)

// unhexedLines is the bytes of records, or the first fault.
func unhexedLines(s string) ([]byte, api.Fault) {
	lines := strings.Split(s, "\n")
	last := len(lines) - 1
	var data []byte
	banks := 0 // how many banks have been told, the first one needs none
	ended := false
	for i, line := range lines {
		if i == last && line == "" {
			break
		}
		if i < last {
			line = strings.TrimSuffix(line, "\r")
		}
		code, col := api.ErrRest, 1
		if !ended {
			code, col = hexLine(line, &data, &banks, &ended)
		}
		if code != api.OK {
			return nil, api.Fault{Code: code, At: api.Pos{Line: i + 1, Col: col}}
		}
	}
	if !ended {
		return nil, api.Fault{Code: api.ErrCut, At: api.Pos{Line: len(lines), Col: len(lines[last]) + 1}}
	}
	return data, api.Fault{}
}

func hexLine(line string, data *[]byte, banks *int, ended *bool) (api.Errno, int) {
	if line == "" || line[0] != ':' {
		return api.ErrHex, 1
	}
	if wrong := wrongDigit.FindStringIndex(line[1:]); wrong != nil {
		return api.ErrHex, wrong[0] + 2
	}
	b, err := hex.DecodeString(line[1:])
	if err != nil || len(b) < 5 || len(b) != 5+int(b[0]) {
		return api.ErrHex, len(line) + 1
	}
	sum := 0
	for _, x := range b {
		sum += int(x)
	}
	if sum%256 != 0 {
		return api.ErrSum, 2 * len(b)
	}
	n, address, kind, own := int(b[0]), int(binary.BigEndian.Uint16(b[1:])), b[3], b[4:len(b)-1]
	so := len(*data)
	switch {
	case kind != 0 && kind != 1 && kind != 4:
		return api.ErrField, 8
	case kind == 1 && n != 0, kind == 4 && n != 2:
		return api.ErrField, 2
	case kind != 0 && address != 0, kind == 0 && address != so&0xFFFF:
		return api.ErrField, 4
	case kind == 4 && (int(binary.BigEndian.Uint16(own)) != so>>16 || so&0xFFFF != 0):
		return api.ErrField, 10
	case kind == 0 && n > 0 && (so+n-1)>>16 != so>>16, kind == 0 && n > 0 && so>>16 != *banks:
		return api.ErrField, 4
	case kind == 0 && so+n > 1<<20:
		return api.ErrRom, 1
	}
	switch kind {
	case 0:
		*data = append(*data, own...)
	case 1:
		*ended = true
	case 4:
		*banks = so >> 16
	}
	return api.OK, 0
}
