package code_test

import (
	"fmt"
	"math/rand"
	"reflect"
	"slices"
	"strconv"
	"strings"
	"testing"

	"junction/api"
	"junction/check"
	"junction/code"
	"junction/tree"
)

const (
	least = -1 << 31
	most  = 1<<31 - 1
)

// resolved is the typed plan of a text.
func resolved(t *testing.T, text string) api.Typed {
	t.Helper()
	p, f := tree.Parse(text)
	if f != (api.Fault{}) {
		t.Fatalf("%s: %v", text, f)
	}
	x, f := check.Resolve(p)
	if f != (api.Fault{}) {
		t.Fatalf("%s: %v", text, f)
	}
	return x
}

// things is what the texts of these tests may name.
const things = `plan p {
	group g0 vehicle min 5 amber 3; group g1 vehicle min 5 amber 3;
	detector d0; detector d1 latch; detector d2; timer t0; timer t1; counter c0; counter c1;
	var x = 4; var y = 0; var z = -1;
	start s;
	stage s { green g1; `

// bodyOf is the statements of a text.
func bodyOf(t *testing.T, text string) []api.Stmt {
	t.Helper()
	return resolved(t, things+"enter { "+text+" } } }").Stages[0].Enter
}

// numberOf is the expression of a text that is a number.
func numberOf(t *testing.T, text string) []api.Node {
	t.Helper()
	return bodyOf(t, "x = "+text+";")[0].Expr
}

// truthOf is the expression of a text that is a truth.
func truthOf(t *testing.T, text string) []api.Node {
	t.Helper()
	return bodyOf(t, "if "+text+" { }")[0].Expr
}

func node(op int, val int32) api.Node { return api.Node{Op: op, Val: val} }

func leaf(op int, val int32) []api.Node { return []api.Node{node(op, val)} }

// over is an operator with its operands.
func over(op int, operands ...[]api.Node) []api.Node {
	return append(slices.Concat(operands...), node(op, 0))
}

// chain is an operator over so many operands, each of which has the one number more, from the left.
func chain(op, leafOp int, first int32, count int) []api.Node {
	e := leaf(leafOp, first)
	for i := 1; i < count; i++ {
		e = over(op, e, leaf(leafOp, first+int32(i)))
	}
	return e
}

// repeated is an expression with so many operators of one operand around it.
func repeated(op int, e []api.Node, count int) []api.Node {
	for range count {
		e = over(op, e)
	}
	return e
}

// codes are the words of all instructions, by the chapter's list.
var codes = func() map[string]int {
	all := map[string]int{}
	for first, words := range map[int]string{
		20: "neg not abs", 30: "add sub mul div rem min max", 40: "eq ne lt le gt ge", 50: "and or",
		128: "end const small truth elapsed var timer counter det green red store reset zero run stop count clear if jump andjump orjump pick",
	} {
		for i, word := range strings.Fields(words) {
			all[word] = first + i
		}
	}
	return all
}()

// written is code as a text has it: "det 0, if 2, end".
func written(text string) []api.Instr {
	var list []api.Instr
	for part := range strings.SplitSeq(text, ",") {
		words := strings.Fields(part)
		if len(words) == 0 {
			continue
		}
		op, known := codes[words[0]]
		if !known {
			panic(text)
		}
		in := api.Instr{Op: op}
		if len(words) == 2 {
			arg, err := strconv.ParseInt(words[1], 10, 32)
			if err != nil {
				panic(text)
			}
			in.Arg = int32(arg)
		}
		list = append(list, in)
	}
	return list
}

// told is code for a failure's text.
func told(list []api.Instr) string {
	names := map[int]string{}
	for word, op := range codes {
		names[op] = word
	}
	var parts []string
	for _, in := range list {
		parts = append(parts, fmt.Sprintf("%s %d", names[in.Op], in.Arg))
	}
	return strings.Join(parts, ", ")
}

// exprCode is Expr where it may not be refused.
func exprCode(t *testing.T, e []api.Node, at int, pool []int32) ([]api.Instr, []int32) {
	t.Helper()
	list, grown, errno := code.Expr(e, at, pool)
	if errno != api.OK {
		t.Fatalf("Expr(%v, %d, %v): %d", e, at, pool, errno)
	}
	return list, grown
}

// bodyCode is Body where it may not be refused.
func bodyCode(t *testing.T, l []api.Stmt, at int, pool []int32) ([]api.Instr, []int32) {
	t.Helper()
	list, grown, errno := code.Body(l, at, pool)
	if errno != api.OK {
		t.Fatalf("Body(%v, %d, %v): %d", l, at, pool, errno)
	}
	return list, grown
}

// generated is Generate where it may not be refused.
func generated(t *testing.T, x api.Typed) api.Image {
	t.Helper()
	m, errno := code.Generate(x)
	if errno != api.OK {
		t.Fatalf("Generate: %d of %.9000s", errno, fmt.Sprintf("%+v", x))
	}
	return m
}

// same tells whether two values are equal, a nil list and an empty one too.
func same(x, y any) bool { return sameValues(reflect.ValueOf(x), reflect.ValueOf(y)) }

func sameValues(v, w reflect.Value) bool {
	switch v.Kind() {
	case reflect.Struct:
		for i := range v.NumField() {
			if !sameValues(v.Field(i), w.Field(i)) {
				return false
			}
		}
		return true
	case reflect.Slice:
		if v.Len() != w.Len() {
			return false
		}
		for i := range v.Len() {
			if !sameValues(v.Index(i), w.Index(i)) {
				return false
			}
		}
		return true
	}
	return v.Equal(w)
}

// copied is a value with new memory throughout, and spare room behind each list.
func copied[T any](x T) T {
	v := reflect.New(reflect.TypeOf(x)).Elem()
	v.Set(reflect.ValueOf(x))
	copyLists(v)
	return v.Interface().(T)
}

func copyLists(v reflect.Value) {
	switch v.Kind() {
	case reflect.Struct:
		for i := range v.NumField() {
			copyLists(v.Field(i))
		}
	case reflect.Slice:
		list := reflect.MakeSlice(v.Type(), v.Len(), v.Len()+2)
		reflect.Copy(list, v)
		v.Set(list)
		for i := range v.Len() {
			copyLists(v.Index(i))
		}
	}
}

// ruin writes over all that the lists of a value reach, their spare room too.
func ruin(x any) { ruinValue(reflect.ValueOf(x)) }

func ruinValue(v reflect.Value) {
	switch v.Kind() {
	case reflect.Struct:
		for i := range v.NumField() {
			ruinValue(v.Field(i))
		}
	case reflect.Slice:
		v = v.Slice(0, v.Cap())
		for i := range v.Len() {
			ruinValue(v.Index(i))
		}
		v.Clear()
	}
}

// piece is the memory of a list, its spare room too.
type piece struct{ from, to uintptr }

func piecesOf(v reflect.Value) []piece {
	var all []piece
	switch v.Kind() {
	case reflect.Struct:
		for i := range v.NumField() {
			all = append(all, piecesOf(v.Field(i))...)
		}
	case reflect.Slice:
		if v.Cap() > 0 {
			all = append(all, piece{v.Pointer(), v.Pointer() + uintptr(v.Cap())*v.Type().Elem().Size()})
		}
		for i := range v.Len() {
			all = append(all, piecesOf(v.Index(i))...)
		}
	}
	return all
}

// shares tells whether two lists of the values have memory in common.
func shares(values ...any) bool {
	var all []piece
	for _, x := range values {
		all = append(all, piecesOf(reflect.ValueOf(x))...)
	}
	slices.SortFunc(all, func(a, b piece) int { return int(a.from) - int(b.from) })
	for i := 1; i < len(all); i++ {
		if all[i].from < all[i-1].to {
			return true
		}
	}
	return false
}

func pick[T any](r *rand.Rand, list ...T) T { return list[r.Intn(len(list))] }

// fields are all numbers, texts, bools and lists of a value.
func fields(v reflect.Value) []reflect.Value {
	switch v.Kind() {
	case reflect.Struct:
		var list []reflect.Value
		for i := range v.NumField() {
			list = append(list, fields(v.Field(i))...)
		}
		return list
	case reflect.Slice:
		list := []reflect.Value{v}
		for i := range v.Len() {
			list = append(list, fields(v.Index(i))...)
		}
		return list
	}
	return []reflect.Value{v}
}

// spoilt is a copy of a value with one field changed, whichever.
func spoilt[T any](r *rand.Rand, x T) T {
	x = copied(x)
	all := fields(reflect.ValueOf(&x).Elem())
	v := all[r.Intn(len(all))]
	switch v.Kind() {
	case reflect.Int, reflect.Int32:
		n := pick(r, -129, -1, 0, 1, 2, 3, 7, 8, 9, 10, 11, 20, 21, 30, 37, 40, 50, 51, 52, 63, 64, 127, 128, 151, 255, 256, 3601, 65535, 65536, least, most, v.Int()-1, v.Int()+1)
		if v.Kind() == reflect.Int && r.Intn(8) == 0 {
			n = pick[int64](r, -1<<63, 1<<63-1, 1<<32+7, -1<<32, v.Int()+256)
		}
		v.SetInt(n)
	case reflect.Uint64:
		v.SetUint(pick(r, 0, 1<<63, ^uint64(0), v.Uint()^1<<r.Intn(64), 1<<r.Intn(6)))
	case reflect.String:
		v.SetString(pick(r, "", "min", "a b", "z", "g0", "s0"))
	case reflect.Bool:
		v.SetBool(!v.Bool())
	case reflect.Slice:
		spoilList(r, v)
	}
	return x
}

func spoilList(r *rand.Rand, v reflect.Value) {
	one := reflect.New(v.Type().Elem()).Elem()
	if v.Len() == 0 {
		v.Set(reflect.Append(v, one))
		return
	}
	i, j := r.Intn(v.Len()), r.Intn(v.Len())
	switch r.Intn(4) {
	case 0:
		v.Set(reflect.AppendSlice(v.Slice3(0, i, i), v.Slice(i+1, v.Len())))
	case 1:
		one.Set(v.Index(i))
		v.Set(reflect.Append(v, one))
		copyLists(v)
	case 2:
		one.Set(v.Index(i))
		v.Index(i).Set(v.Index(j))
		v.Index(j).Set(one)
	case 3:
		v.Set(reflect.Append(v, one))
	}
}
