package rom_test

import (
	"encoding/binary"
	"encoding/hex"
	"fmt"
	"hash/crc32"
	"math/rand"
	"reflect"
	"slices"
	"strings"
	"testing"

	"junction/api"
	"junction/rom"
)

const (
	least = -1 << 31
	most  = 1<<31 - 1
)

func at(code api.Errno, col int) api.Fault { return api.Fault{Code: code, At: api.Pos{Col: col}} }

// little is the chapter's first example.
func little() api.Image {
	return api.Image{Name: "p", Slots: []api.Slot{{Tick: 1, Leave: 2}}, Code: []api.Instr{{Op: api.InEnd}, {Op: api.InEnd}, {Op: api.InEnd}}}
}

// rich has something of everything.
func rich() api.Image {
	return api.Image{
		Name: "north",
		Tables: api.Tables{
			Groups:    []api.Group{{Name: "main", Sort: 1, Min: 7, Amber: 3, Lead: 2}, {Name: "side", Sort: 1, Min: 259, Amber: 60}, {Name: "w", Sort: 2, Min: 3600, Lead: 60}},
			Conflicts: []api.Conflict{{A: 0, B: 1, AB: 5, BA: 6}, {A: 0, B: 2, AB: 3600, BA: 0}, {A: 1, B: 2, AB: 256, BA: 255}},
		},
		Dets:     []api.Det{{Name: "loop", Hold: 2}, {Name: "north", Latch: true, Delay: 3600, Hold: 3599}},
		Timers:   3,
		Counters: 64,
		Vars:     []int32{20, -1, least},
		Pool:     []int32{most, 0x01020304},
		Slots:    []api.Slot{{Id: 2, Green: 1, Enter: 0, Tick: 4, Leave: 9}, {Id: 3, Green: 6, Enter: 65535, Tick: 256, Leave: 1}, {Id: 255, Green: 7}},
		Start:    2,
		Depth:    515,
		Code: []api.Instr{{Op: api.InEnd}, {Op: api.InConst, Arg: 0xA1B2}, {Op: api.InSmall, Arg: -128}, {Op: api.InSmall, Arg: 127}, {Op: api.InTruth, Arg: 1}, {Op: api.InElapsed},
			{Op: api.InVar, Arg: 255}, {Op: api.InJump, Arg: 65535}, {Op: api.OpOr}, {Op: api.InPick, Arg: 3}, {Op: api.InAnd, Arg: 258}},
	}
}

// richContents are what its sections hold.
var richContents = [8]string{
	"05 6e6f727468",
	"03 04 6d61696e 01 0700 03 02  04 73696465 01 0301 3c 00  01 77 02 100e 00 3c",
	"0300 00 01 0500 0600  00 02 100e 0000  01 02 0001 ff00",
	"02 04 6c6f6f70 00 0000 0200  05 6e6f727468 01 100e 0f0e",
	"03 40 03 14000000 ffffffff 00000080",
	"0200 ffffff7f 04030201",
	"0200 0300 02 0100000000000000 00000000 04000000 09000000  03 0600000000000000 ffff0000 00010000 01000000  ff 0700000000000000 00000000 00000000 00000000",
	"0302 0b000000 80  81 b2a1  82 80  82 7f  83 01  84  85 ff  93 ffff0000  33  96 03  94 02010000",
}

// littleContents are those of the first example.
var littleContents = [8]string{"01 70", "00", "0000", "00", "00 00 00", "0000", "0000 0100 00 0000000000000000 00000000 01000000 02000000", "0000 03000000 80 80 80"}

// full has as much of everything as there may be.
func full() api.Image {
	m := api.Image{Name: strings.Repeat("n", 32), Timers: 64, Counters: 64, Vars: make([]int32, 64), Pool: make([]int32, 16384), Start: 255, Depth: 65535, Code: make([]api.Instr, 65536)}
	for i := range 64 {
		m.Tables.Groups = append(m.Tables.Groups, api.Group{Name: fmt.Sprintf("g%031d", i), Sort: 1 + i%2, Min: 3600, Amber: 60, Lead: 60})
		m.Dets = append(m.Dets, api.Det{Name: fmt.Sprintf("d%031d", i), Latch: true, Delay: 3600, Hold: 3600})
		m.Vars[i] = int32(i - 32)
		for j := range i {
			m.Tables.Conflicts = append(m.Tables.Conflicts, api.Conflict{A: j, B: i, AB: 3600, BA: 3600})
		}
	}
	slices.SortFunc(m.Tables.Conflicts, func(c, d api.Conflict) int { return c.A*64 + c.B - d.A*64 - d.B })
	for i := range m.Pool {
		m.Pool[i] = int32(i) * -131071
	}
	for i := range 256 {
		m.Slots = append(m.Slots, api.Slot{Id: i, Green: ^uint64(i), Enter: 65535, Tick: 65535 - i, Leave: i})
	}
	for i := range m.Code {
		m.Code[i] = api.Instr{Op: api.InOr, Arg: int32(i)}
	}
	return m
}

// unhexed is the bytes of digits; blanks count for nothing.
func unhexed(digits string) []byte {
	b, err := hex.DecodeString(strings.ReplaceAll(digits, " ", ""))
	if err != nil {
		panic(err)
	}
	return b
}

// framed is sections with their numbers and lengths.
func framed(contents ...string) []byte {
	var body []byte
	for i, digits := range contents {
		content := unhexed(digits)
		body = append(body, byte(i+1))
		body = binary.LittleEndian.AppendUint32(body, uint32(len(content)))
		body = append(body, content...)
	}
	return body
}

// sealed is what stands between head and sum, with both.
func sealed(body []byte) []byte {
	b := []byte("JSP\x1a\x01\x00")
	b = binary.LittleEndian.AppendUint32(b, uint32(len(body)+14))
	b = append(b, body...)
	return binary.LittleEndian.AppendUint32(b, crc32.ChecksumIEEE(b))
}

// bodyOf is what stands between head and sum of an image's bytes.
func bodyOf(b []byte) []byte { return slices.Clone(b[10 : len(b)-4]) }

// record is a line of hex records, without its end.
func record(kind byte, address int, data ...byte) string {
	b := append([]byte{byte(len(data)), byte(address >> 8), byte(address), kind}, data...)
	sum := 0
	for _, x := range b {
		sum += int(x)
	}
	return fmt.Sprintf(":%X", append(b, byte(256-sum%256)))
}

const endRecord = ":00000001FF\n"

// texts are the records of so many bytes, up to the end record.
func texts(t *testing.T, count int) string {
	t.Helper()
	s, e := rom.ToHex(make([]byte, count))
	text, ends := strings.CutSuffix(s, endRecord)
	if e != api.OK || !ends {
		t.Fatalf("ToHex of %d bytes: %d", count, e)
	}
	return text
}

// same tells whether two values are equal, a nil list and an empty one too.
func same(x, y any) bool { return sameValues(reflect.ValueOf(x), reflect.ValueOf(y)) }

func sameValues(v, w reflect.Value) bool {
	switch v.Kind() {
	case reflect.Struct:
		for i := range v.NumField() {
			if !sameValues(v.Field(i), w.Field(i)) {
				return false
			}
		}
		return true
	case reflect.Slice:
		if v.Len() != w.Len() {
			return false
		}
		for i := range v.Len() {
			if !sameValues(v.Index(i), w.Index(i)) {
				return false
			}
		}
		return true
	}
	return v.Equal(w)
}

// copied is a value with new memory throughout, and spare room behind each list.
func copied[T any](x T) T {
	v := reflect.New(reflect.TypeOf(x)).Elem()
	v.Set(reflect.ValueOf(x))
	copyLists(v)
	return v.Interface().(T)
}

func copyLists(v reflect.Value) {
	switch v.Kind() {
	case reflect.Struct:
		for i := range v.NumField() {
			copyLists(v.Field(i))
		}
	case reflect.Slice:
		list := reflect.MakeSlice(v.Type(), v.Len(), v.Len()+2)
		reflect.Copy(list, v)
		v.Set(list)
		for i := range v.Len() {
			copyLists(v.Index(i))
		}
	}
}

// piece is the memory of a list, its spare room too.
type piece struct{ from, to uintptr }

func piecesOf(v reflect.Value) []piece {
	var all []piece
	switch v.Kind() {
	case reflect.Struct:
		for i := range v.NumField() {
			all = append(all, piecesOf(v.Field(i))...)
		}
	case reflect.Slice:
		if v.Cap() > 0 {
			all = append(all, piece{v.Pointer(), v.Pointer() + uintptr(v.Cap())*v.Type().Elem().Size()})
		}
		for i := range v.Len() {
			all = append(all, piecesOf(v.Index(i))...)
		}
	}
	return all
}

// shares tells whether two lists of the values have memory in common.
func shares(values ...any) bool {
	var all []piece
	for _, x := range values {
		all = append(all, piecesOf(reflect.ValueOf(x))...)
	}
	slices.SortFunc(all, func(a, b piece) int { return int(a.from) - int(b.from) })
	for i := 1; i < len(all); i++ {
		if all[i].from < all[i-1].to {
			return true
		}
	}
	return false
}

func pick[T any](r *rand.Rand, list ...T) T { return list[r.Intn(len(list))] }

// fields are all numbers, texts, bools and lists of a value.
func fields(v reflect.Value) []reflect.Value {
	switch v.Kind() {
	case reflect.Struct:
		var list []reflect.Value
		for i := range v.NumField() {
			list = append(list, fields(v.Field(i))...)
		}
		return list
	case reflect.Slice:
		list := []reflect.Value{v}
		for i := range v.Len() {
			list = append(list, fields(v.Index(i))...)
		}
		return list
	}
	return []reflect.Value{v}
}

// spoilt is a copy of a value with one field changed, whichever.
func spoilt[T any](r *rand.Rand, x T) T {
	x = copied(x)
	all := fields(reflect.ValueOf(&x).Elem())
	v := all[r.Intn(len(all))]
	switch v.Kind() {
	case reflect.Int, reflect.Int32:
		n := pick(r, -129, -128, -1, 0, 1, 2, 3, 20, 30, 52, 60, 61, 63, 64, 65, 127, 128, 255, 256, 3600, 3601, 65535, 65536, least, most, v.Int()-1, v.Int()+1)
		if v.Kind() == reflect.Int && r.Intn(8) == 0 {
			n = pick[int64](r, -1<<63, 1<<63-1, 1<<32+1, -1<<32, v.Int()+256, v.Int()+65536)
		}
		v.SetInt(n)
	case reflect.Uint64:
		v.SetUint(pick(r, 0, 1<<63, ^uint64(0), v.Uint()^1<<r.Intn(64), 1<<r.Intn(6)))
	case reflect.String:
		v.SetString(pick(r, "", "min", "a b", "z", "n0", "n1", "9", strings.Repeat("x", 32), strings.Repeat("x", 33), "a\x00", "\xff"))
	case reflect.Bool:
		v.SetBool(!v.Bool())
	case reflect.Slice:
		spoilList(r, v)
	}
	return x
}

func spoilList(r *rand.Rand, v reflect.Value) {
	one := reflect.New(v.Type().Elem()).Elem()
	if v.Len() == 0 {
		v.Set(reflect.Append(v, one))
		return
	}
	i, j := r.Intn(v.Len()), r.Intn(v.Len())
	switch r.Intn(4) {
	case 0:
		v.Set(reflect.AppendSlice(v.Slice3(0, i, i), v.Slice(i+1, v.Len())))
	case 1:
		one.Set(v.Index(i))
		v.Set(reflect.Append(v, one))
		copyLists(v)
	case 2:
		one.Set(v.Index(i))
		v.Index(i).Set(v.Index(j))
		v.Index(j).Set(one)
	case 3:
		v.Set(reflect.Append(v, one))
	}
}
