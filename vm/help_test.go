package vm_test

import (
	"fmt"
	"math/rand"
	"reflect"
	"slices"
	"strconv"
	"strings"
	"testing"

	"junction/api"
	"junction/check"
	"junction/code"
	"junction/load"
	"junction/rom"
	"junction/tree"
	"junction/vm"
)

const (
	least = -1 << 31
	most  = 1<<31 - 1
	last  = 1<<63 - 1 // the greatest tick
)

// twoPlan is chapter 8's example.
const twoPlan = `plan two {
	group a vehicle min 2 amber 1;
	group b pedestrian min 3 amber 0;
	conflict a b 2 1;
	detector push latch;
	counter walks;
	start cars;
	stage cars { green a; next walk when push; }
	stage walk { green b; enter { count walks; } during { if red(a) { clear push; } } next cars when elapsed >= 2; }
}`

// smallPlan is DOC.md's example.
const smallPlan = `plan small {
	group main vehicle min 7 amber 3 lead 2;
	group side vehicle min 5 amber 3;
	group walk pedestrian min 6 amber 4;
	conflict main side 5 6;
	conflict main walk 4 8;
	detector loop hold 2;
	detector push latch;
	timer rest;
	counter calls;
	var longest = 20;
	cond due = elapsed >= longest or loop and elapsed > 9;
	start flow;
	stage flow { green main; enter { reset rest; run rest; } next cross when push; next turn when due; }
	stage turn { green side; next flow when not loop or elapsed >= 12; }
	stage cross { green side, walk; enter { count calls; clear push; } next flow when elapsed >= 6; }
}`

// resolved is the typed plan of a text.
func resolved(t *testing.T, text string) api.Typed {
	t.Helper()
	p, f := tree.Parse(text)
	if f != (api.Fault{}) {
		t.Fatalf("%s: %v", text, f)
	}
	x, f := check.Resolve(p)
	if f != (api.Fault{}) {
		t.Fatalf("%s: %v", text, f)
	}
	return x
}

// generated is a plan's image.
func generated(t *testing.T, x api.Typed) api.Image {
	t.Helper()
	m, errno := code.Generate(x)
	if errno != api.OK {
		t.Fatalf("Generate: %d of %.9000s", errno, fmt.Sprintf("%+v", x))
	}
	return m
}

// encoded is an image's bytes.
func encoded(t *testing.T, m api.Image) []byte {
	t.Helper()
	b, errno := rom.Encode(m)
	if errno != api.OK {
		t.Fatalf("Encode: %d of %.9000s", errno, fmt.Sprintf("%+v", m))
	}
	return b
}

// begun is a new machine of an image in which nothing is wrong.
func begun(t *testing.T, m api.Image) *vm.Machine {
	t.Helper()
	v, f := vm.New(m)
	if f != (api.Fault{}) || v == nil {
		t.Fatalf("New: %v of %s", f, listed(m))
	}
	return v
}

// resumed is a machine in a state that is of the image.
func resumed(t *testing.T, m api.Image, s api.State) *vm.Machine {
	t.Helper()
	v, f := vm.Resume(m, s)
	if f != (api.Fault{}) || v == nil {
		t.Fatalf("Resume: %v of %+v in %s", f, s, listed(m))
	}
	return v
}

// ran is what an image's bytes show.
func ran(t *testing.T, m api.Image, ins []uint64) []api.Entry {
	t.Helper()
	list, f := vm.Run(encoded(t, m), ins)
	if f != (api.Fault{}) || len(list) != len(ins) {
		t.Fatalf("Run: %d entries, %v of %s", len(list), f, listed(m))
	}
	return list
}

// told is what entries tell, each as its picture and its slot.
func told(list []api.Entry) string {
	var parts []string
	for _, e := range list {
		parts = append(parts, fmt.Sprintf("%s %d", e.Heads, e.Stage))
	}
	return strings.Join(parts, ", ")
}

// at is a fault at a place.
func at(code api.Errno, place int) api.Fault { return api.Fault{Code: code, At: api.Pos{Col: place}} }

// codes are the words of all instructions, by chapter 11's list.
var codes = func() map[string]int {
	all := map[string]int{}
	for first, words := range map[int]string{
		20: "neg not abs", 30: "add sub mul div rem min max", 40: "eq ne lt le gt ge", 50: "and or",
		128: "end const small truth elapsed var timer counter det green red store reset zero run stop count clear if jump andjump orjump pick",
	} {
		for i, word := range strings.Fields(words) {
			all[word] = first + i
		}
	}
	return all
}()

// words is codes the other way round.
var words = func() map[int]string {
	all := map[int]string{}
	for word, op := range codes {
		all[op] = word
	}
	return all
}()

// instruction is one as a text has it: "if 2".
func instruction(text string) api.Instr {
	parts := strings.Fields(text)
	op, known := codes[parts[0]]
	if !known {
		panic(text)
	}
	in := api.Instr{Op: op}
	if len(parts) == 2 {
		arg, err := strconv.ParseInt(parts[1], 10, 32)
		if err != nil {
			panic(text)
		}
		in.Arg = int32(arg)
	}
	return in
}

// put lays out a text's sections, "det 0, if 2, end; end; end", as an image's code. The slots, which must be there, get three of them each.
func put(m api.Image, text string) api.Image {
	m.Code = nil
	var entries []int
	for part := range strings.SplitSeq(text, ";") {
		entries = append(entries, len(m.Code))
		for in := range strings.SplitSeq(part, ",") {
			m.Code = append(m.Code, instruction(in))
		}
	}
	m.Slots = slices.Clone(m.Slots)
	if len(entries) != 3*len(m.Slots) {
		panic(text)
	}
	for i := range m.Slots {
		m.Slots[i].Enter, m.Slots[i].Tick, m.Slots[i].Leave = entries[3*i], entries[3*i+1], entries[3*i+2]
	}
	return m
}

// listed is an image for a failure's text.
func listed(m api.Image) string {
	var b strings.Builder
	fmt.Fprintf(&b, "%+v, dets %+v, vars %v, %d timers, %d counters, pool %v, depth %d, start %d;", m.Tables, m.Dets, m.Vars, m.Timers, m.Counters, m.Pool[:min(len(m.Pool), 50)], m.Depth, m.Start)
	for _, s := range m.Slots {
		fmt.Fprintf(&b, " slot %+v;", s)
	}
	for i, in := range m.Code[:min(len(m.Code), 500)] {
		fmt.Fprintf(&b, " %d: %s %d,", i, words[in.Op], in.Arg)
	}
	return b.String()
}

// same tells whether two values are equal, a nil list and an empty one too.
func same(x, y any) bool { return sameValues(reflect.ValueOf(x), reflect.ValueOf(y)) }

func sameValues(v, w reflect.Value) bool {
	switch v.Kind() {
	case reflect.Struct:
		for i := range v.NumField() {
			if !sameValues(v.Field(i), w.Field(i)) {
				return false
			}
		}
		return true
	case reflect.Slice:
		if v.Len() != w.Len() {
			return false
		}
		for i := range v.Len() {
			if !sameValues(v.Index(i), w.Index(i)) {
				return false
			}
		}
		return true
	}
	return v.Equal(w)
}

// copied is a value with new memory throughout, and spare room behind each list.
func copied[T any](x T) T {
	v := reflect.New(reflect.TypeOf(x)).Elem()
	v.Set(reflect.ValueOf(x))
	copyLists(v)
	return v.Interface().(T)
}

func copyLists(v reflect.Value) {
	switch v.Kind() {
	case reflect.Struct:
		for i := range v.NumField() {
			copyLists(v.Field(i))
		}
	case reflect.Slice:
		list := reflect.MakeSlice(v.Type(), v.Len(), v.Len()+2)
		reflect.Copy(list, v)
		v.Set(list)
		for i := range v.Len() {
			copyLists(v.Index(i))
		}
	}
}

// ruin writes over all that the lists of a value reach, their spare room too.
func ruin(x any) { ruinValue(reflect.ValueOf(x)) }

func ruinValue(v reflect.Value) {
	switch v.Kind() {
	case reflect.Struct:
		for i := range v.NumField() {
			ruinValue(v.Field(i))
		}
	case reflect.Slice:
		v = v.Slice(0, v.Cap())
		for i := range v.Len() {
			ruinValue(v.Index(i))
		}
	case reflect.Int, reflect.Int32:
		if v.CanSet() {
			v.SetInt(-77)
		}
	case reflect.Uint64:
		if v.CanSet() {
			v.SetUint(^v.Uint())
		}
	case reflect.String:
		if v.CanSet() {
			v.SetString("ruin")
		}
	case reflect.Bool:
		if v.CanSet() {
			v.SetBool(!v.Bool())
		}
	}
}

// piece is the memory of a list, its spare room too.
type piece struct{ from, to uintptr }

func piecesOf(v reflect.Value) []piece {
	var all []piece
	switch v.Kind() {
	case reflect.Struct:
		for i := range v.NumField() {
			all = append(all, piecesOf(v.Field(i))...)
		}
	case reflect.Slice:
		if v.Cap() > 0 {
			all = append(all, piece{v.Pointer(), v.Pointer() + uintptr(v.Cap())*v.Type().Elem().Size()})
		}
		for i := range v.Len() {
			all = append(all, piecesOf(v.Index(i))...)
		}
	}
	return all
}

// shares tells whether two lists of the values have memory in common.
func shares(values ...any) bool {
	var all []piece
	for _, x := range values {
		all = append(all, piecesOf(reflect.ValueOf(x))...)
	}
	slices.SortFunc(all, func(a, b piece) int { return int(a.from) - int(b.from) })
	for i := 1; i < len(all); i++ {
		if all[i].from < all[i-1].to {
			return true
		}
	}
	return false
}

func pick[T any](r *rand.Rand, list ...T) T { return list[r.Intn(len(list))] }

// fields are all numbers, texts, bools and lists of a value.
func fields(v reflect.Value) []reflect.Value {
	switch v.Kind() {
	case reflect.Struct:
		var list []reflect.Value
		for i := range v.NumField() {
			list = append(list, fields(v.Field(i))...)
		}
		return list
	case reflect.Slice:
		list := []reflect.Value{v}
		for i := range v.Len() {
			list = append(list, fields(v.Index(i))...)
		}
		return list
	}
	return []reflect.Value{v}
}

// spoilt is a copy of a value with one field changed, whichever.
func spoilt[T any](r *rand.Rand, x T) T {
	x = copied(x)
	all := fields(reflect.ValueOf(&x).Elem())
	v := all[r.Intn(len(all))]
	switch v.Kind() {
	case reflect.Int, reflect.Int32:
		n := pick(r, -129, -2, -1, 0, 1, 2, 3, 7, 10, 20, 40, 51, 63, 64, 128, 151, 255, 256, 3601, 65536, least, most, v.Int()-1, v.Int()+1)
		if v.Kind() == reflect.Int && r.Intn(8) == 0 {
			n = pick[int64](r, -1<<63, 1<<63-1, 1<<32+7, -1<<32, v.Int()+256)
		}
		v.SetInt(n)
	case reflect.Uint64:
		v.SetUint(pick(r, 0, 1<<63, ^uint64(0), v.Uint()^1<<r.Intn(64), 1<<r.Intn(6)))
	case reflect.String:
		v.SetString(pick(r, "", "min", "a b", "z", "g0", "s0"))
	case reflect.Bool:
		v.SetBool(!v.Bool())
	case reflect.Slice:
		spoilList(r, v)
	}
	return x
}

func spoilList(r *rand.Rand, v reflect.Value) {
	one := reflect.New(v.Type().Elem()).Elem()
	if v.Len() == 0 {
		v.Set(reflect.Append(v, one))
		return
	}
	i, j := r.Intn(v.Len()), r.Intn(v.Len())
	switch r.Intn(4) {
	case 0:
		v.Set(reflect.AppendSlice(v.Slice3(0, i, i), v.Slice(i+1, v.Len())))
	case 1:
		one.Set(v.Index(i))
		v.Set(reflect.Append(v, one))
		copyLists(v)
	case 2:
		one.Set(v.Index(i))
		v.Index(i).Set(v.Index(j))
		v.Index(j).Set(one)
	case 3:
		v.Set(reflect.Append(v, one))
	}
}

// isFine tells whether load finds nothing wrong with an image.
func isFine(m api.Image) bool { return load.Verify(m) == api.Fault{} }
