package load_test

import (
	"fmt"
	"math/rand"
	"reflect"
	"slices"
	"strconv"
	"strings"
	"testing"

	"junction/api"
	"junction/check"
	"junction/code"
	"junction/load"
	"junction/rom"
	"junction/tree"
)

const (
	least = -1 << 31
	most  = 1<<31 - 1
)

// resolved is the typed plan of a text.
func resolved(t *testing.T, text string) api.Typed {
	t.Helper()
	p, f := tree.Parse(text)
	if f != (api.Fault{}) {
		t.Fatalf("%s: %v", text, f)
	}
	x, f := check.Resolve(p)
	if f != (api.Fault{}) {
		t.Fatalf("%s: %v", text, f)
	}
	return x
}

// generated is a plan's image.
func generated(t *testing.T, x api.Typed) api.Image {
	t.Helper()
	m, errno := code.Generate(x)
	if errno != api.OK {
		t.Fatalf("Generate: %d of %.9000s", errno, fmt.Sprintf("%+v", x))
	}
	return m
}

// encoded is an image's bytes.
func encoded(t *testing.T, m api.Image) []byte {
	t.Helper()
	b, errno := rom.Encode(m)
	if errno != api.OK {
		t.Fatalf("Encode: %d of %.9000s", errno, fmt.Sprintf("%+v", m))
	}
	return b
}

// heights is Heights where it may not be refused.
func heights(t *testing.T, m api.Image, entry int) []int {
	t.Helper()
	list, f := load.Heights(m, entry)
	if f != (api.Fault{}) {
		t.Fatalf("Heights(%s, %d): %v", told(m), entry, f)
	}
	return list
}

// at is a fault at a place.
func at(code api.Errno, place int) api.Fault { return api.Fault{Code: code, At: api.Pos{Col: place}} }

// codes are the words of all instructions, by chapter 11's list.
var codes = func() map[string]int {
	all := map[string]int{}
	for first, words := range map[int]string{
		20: "neg not abs", 30: "add sub mul div rem min max", 40: "eq ne lt le gt ge", 50: "and or",
		128: "end const small truth elapsed var timer counter det green red store reset zero run stop count clear if jump andjump orjump pick",
	} {
		for i, word := range strings.Fields(words) {
			all[word] = first + i
		}
	}
	return all
}()

// words is codes the other way round.
var words = func() map[int]string {
	all := map[int]string{}
	for word, op := range codes {
		all[op] = word
	}
	return all
}()

// instruction is one as a text has it: "if 2".
func instruction(text string) api.Instr {
	parts := strings.Fields(text)
	op, known := codes[parts[0]]
	if !known {
		panic(text)
	}
	in := api.Instr{Op: op}
	if len(parts) == 2 {
		arg, err := strconv.ParseInt(parts[1], 10, 32)
		if err != nil {
			panic(text)
		}
		in.Arg = int32(arg)
	}
	return in
}

// put lays out a text's sections, "det 0, if 2, end; end; end", as an image's code and slots. Each slot has three of them.
func put(m api.Image, text string) api.Image {
	m.Code, m.Slots = nil, nil
	var entries []int
	for part := range strings.SplitSeq(text, ";") {
		entries = append(entries, len(m.Code))
		for in := range strings.SplitSeq(part, ",") {
			m.Code = append(m.Code, instruction(in))
		}
	}
	for i, three := range slices.Collect(slices.Chunk(entries, 3)) {
		m.Slots = append(m.Slots, api.Slot{Id: i, Enter: three[0], Tick: three[1], Leave: three[2]})
	}
	return m
}

// plain is the image of the chapter's examples: one variable, one timer, Depth 2.
func plain(text string) api.Image {
	return put(api.Image{Name: "p", Timers: 1, Vars: make([]int32, 1), Depth: 2}, text)
}

// rich has some of everything, of each sort another number.
func rich(text string) api.Image {
	m := api.Image{Name: "p", Timers: 2, Counters: 3, Vars: make([]int32, 4), Pool: make([]int32, 5), Depth: 3}
	for i := range 6 {
		m.Dets = append(m.Dets, api.Det{Name: fmt.Sprint("d", i)})
	}
	for i := range 7 {
		m.Tables.Groups = append(m.Tables.Groups, api.Group{Name: fmt.Sprint("g", i), Sort: 1, Min: 1})
	}
	return put(m, text)
}

// told is an image for a failure's text: its entries, its depth, its code.
func told(m api.Image) string {
	var b strings.Builder
	fmt.Fprintf(&b, "depth %d, %d in pool, %d vars, %d timers, %d counters, %d dets, %d groups;", m.Depth, len(m.Pool), len(m.Vars), m.Timers, m.Counters, len(m.Dets), len(m.Tables.Groups))
	for _, s := range m.Slots {
		fmt.Fprintf(&b, " slot %d %d %d;", s.Enter, s.Tick, s.Leave)
	}
	for i, in := range m.Code[:min(len(m.Code), 500)] {
		fmt.Fprintf(&b, " %d: %s %d,", i, words[in.Op], in.Arg)
	}
	return b.String()
}

// same tells whether two values are equal, a nil list and an empty one too.
func same(x, y any) bool { return sameValues(reflect.ValueOf(x), reflect.ValueOf(y)) }

func sameValues(v, w reflect.Value) bool {
	switch v.Kind() {
	case reflect.Struct:
		for i := range v.NumField() {
			if !sameValues(v.Field(i), w.Field(i)) {
				return false
			}
		}
		return true
	case reflect.Slice:
		if v.Len() != w.Len() {
			return false
		}
		for i := range v.Len() {
			if !sameValues(v.Index(i), w.Index(i)) {
				return false
			}
		}
		return true
	}
	return v.Equal(w)
}

// copied is a value with new memory throughout, and spare room behind each list.
func copied[T any](x T) T {
	v := reflect.New(reflect.TypeOf(x)).Elem()
	v.Set(reflect.ValueOf(x))
	copyLists(v)
	return v.Interface().(T)
}

func copyLists(v reflect.Value) {
	switch v.Kind() {
	case reflect.Struct:
		for i := range v.NumField() {
			copyLists(v.Field(i))
		}
	case reflect.Slice:
		list := reflect.MakeSlice(v.Type(), v.Len(), v.Len()+2)
		reflect.Copy(list, v)
		v.Set(list)
		for i := range v.Len() {
			copyLists(v.Index(i))
		}
	}
}

// ruin writes over all that the lists of a value reach, their spare room too.
func ruin(x any) { ruinValue(reflect.ValueOf(x)) }

func ruinValue(v reflect.Value) {
	switch v.Kind() {
	case reflect.Struct:
		for i := range v.NumField() {
			ruinValue(v.Field(i))
		}
	case reflect.Slice:
		v = v.Slice(0, v.Cap())
		for i := range v.Len() {
			ruinValue(v.Index(i))
		}
		v.Clear()
	}
}

// piece is the memory of a list, its spare room too.
type piece struct{ from, to uintptr }

func piecesOf(v reflect.Value) []piece {
	var all []piece
	switch v.Kind() {
	case reflect.Struct:
		for i := range v.NumField() {
			all = append(all, piecesOf(v.Field(i))...)
		}
	case reflect.Slice:
		if v.Cap() > 0 {
			all = append(all, piece{v.Pointer(), v.Pointer() + uintptr(v.Cap())*v.Type().Elem().Size()})
		}
		for i := range v.Len() {
			all = append(all, piecesOf(v.Index(i))...)
		}
	}
	return all
}

// shares tells whether two lists of the values have memory in common.
func shares(values ...any) bool {
	var all []piece
	for _, x := range values {
		all = append(all, piecesOf(reflect.ValueOf(x))...)
	}
	slices.SortFunc(all, func(a, b piece) int { return int(a.from) - int(b.from) })
	for i := 1; i < len(all); i++ {
		if all[i].from < all[i-1].to {
			return true
		}
	}
	return false
}

func pick[T any](r *rand.Rand, list ...T) T { return list[r.Intn(len(list))] }

// fields are all numbers, texts, bools and lists of a value.
func fields(v reflect.Value) []reflect.Value {
	switch v.Kind() {
	case reflect.Struct:
		var list []reflect.Value
		for i := range v.NumField() {
			list = append(list, fields(v.Field(i))...)
		}
		return list
	case reflect.Slice:
		list := []reflect.Value{v}
		for i := range v.Len() {
			list = append(list, fields(v.Index(i))...)
		}
		return list
	}
	return []reflect.Value{v}
}

// spoilt is a copy of a value with one field changed, whichever.
func spoilt[T any](r *rand.Rand, x T) T {
	x = copied(x)
	all := fields(reflect.ValueOf(&x).Elem())
	v := all[r.Intn(len(all))]
	switch v.Kind() {
	case reflect.Int, reflect.Int32:
		n := pick(r, -129, -1, 0, 1, 2, 3, 7, 8, 9, 10, 11, 20, 21, 30, 37, 40, 50, 51, 52, 63, 64, 127, 128, 151, 255, 256, 3601, 65535, 65536, least, most, v.Int()-1, v.Int()+1)
		if v.Kind() == reflect.Int && r.Intn(8) == 0 {
			n = pick[int64](r, -1<<63, 1<<63-1, 1<<32+7, -1<<32, v.Int()+256)
		}
		v.SetInt(n)
	case reflect.Uint64:
		v.SetUint(pick(r, 0, 1<<63, ^uint64(0), v.Uint()^1<<r.Intn(64), 1<<r.Intn(6)))
	case reflect.String:
		v.SetString(pick(r, "", "min", "a b", "z", "g0", "s0"))
	case reflect.Bool:
		v.SetBool(!v.Bool())
	case reflect.Slice:
		spoilList(r, v)
	}
	return x
}

func spoilList(r *rand.Rand, v reflect.Value) {
	one := reflect.New(v.Type().Elem()).Elem()
	if v.Len() == 0 {
		v.Set(reflect.Append(v, one))
		return
	}
	i, j := r.Intn(v.Len()), r.Intn(v.Len())
	switch r.Intn(4) {
	case 0:
		v.Set(reflect.AppendSlice(v.Slice3(0, i, i), v.Slice(i+1, v.Len())))
	case 1:
		one.Set(v.Index(i))
		v.Set(reflect.Append(v, one))
		copyLists(v)
	case 2:
		one.Set(v.Index(i))
		v.Index(i).Set(v.Index(j))
		v.Index(j).Set(one)
	case 3:
		v.Set(reflect.Append(v, one))
	}
}
