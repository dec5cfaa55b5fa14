package opt_test

import (
	"fmt"
	"math/rand"
	"reflect"
	"slices"
	"strconv"
	"strings"
	"testing"

	"junction/api"
	"junction/check"
	"junction/tree"
)

const (
	least = -1 << 31
	most  = 1<<31 - 1
)

// things is what the texts of these tests may name: x, y, z are variables 0 to 2.
const things = `plan p {
	group g0 vehicle min 5 amber 3; group g1 vehicle min 5 amber 3; group g2 vehicle min 5 amber 3;
	detector d; detector e latch; timer t; timer u; counter c; counter b;
	var x = 4; var y = 0; var z = -1;
	const least = 1234567890;
	start s;
	stage s { green g2; `

// resolved is the typed plan of a text.
func resolved(t *testing.T, text string) api.Typed {
	t.Helper()
	p, f := tree.Parse(text)
	if f != (api.Fault{}) {
		t.Fatalf("%s: %v", text, f)
	}
	x, f := check.Resolve(p)
	if f != (api.Fault{}) {
		t.Fatalf("%s: %v", text, f)
	}
	return x
}

// leastSign stands in these texts for the least word, which no text can write.
const leastSign = 1234567890

// exprOf is the expression of a text, a truth or a number.
func exprOf(t *testing.T, text string) []api.Node {
	t.Helper()
	for _, form := range []string{"enter { if %s { } } } }", "enter { x = %s; } } }"} {
		p, f := tree.Parse(things + strings.Replace(form, "%s", text, 1))
		if f != (api.Fault{}) {
			t.Fatalf("%s: %v", text, f)
		}
		if r, f := check.Resolve(p); f == (api.Fault{}) {
			return withLeast(r.Stages[0].Enter[0].Expr)
		}
	}
	t.Fatalf("%s: neither a truth nor a number", text)
	return nil
}

func withLeast(e []api.Node) []api.Node {
	for i := range e {
		if e[i] == node(api.OpInt, leastSign) {
			e[i].Val = least
		}
	}
	return e
}

// negatives puts one node in the place of a number and its -, which nothing that is folded has.
func negatives(e []api.Node) []api.Node {
	var out []api.Node
	for _, n := range e {
		if last := len(out) - 1; n.Op == api.OpNeg && out[last].Op == api.OpInt {
			out[last].Val = -out[last].Val
			continue
		}
		out = append(out, n)
	}
	return out
}

// bodyOf is the statements of a text.
func bodyOf(t *testing.T, text string) []api.Stmt {
	t.Helper()
	list := resolved(t, things+"enter { "+text+" } } }").Stages[0].Enter
	for i := range list {
		list[i].Expr = withLeast(list[i].Expr)
	}
	return list
}

// smallBody is the same with words below 0 as one node each.
func smallBody(t *testing.T, text string) []api.Stmt {
	t.Helper()
	list := bodyOf(t, text)
	for i := range list {
		list[i].Expr = negatives(list[i].Expr)
	}
	return list
}

var signs = map[int]string{
	api.OpNeg: "-", api.OpNot: "not", api.OpAbs: "abs", api.OpAdd: "+", api.OpSub: "-", api.OpMul: "*", api.OpDiv: "/", api.OpRem: "%", api.OpMin: "min", api.OpMax: "max",
	api.OpEq: "==", api.OpNe: "!=", api.OpLt: "<", api.OpLe: "<=", api.OpGt: ">", api.OpGe: ">=", api.OpAnd: "and", api.OpOr: "or",
	api.OpBool: "truth", api.OpElapsed: "elapsed", api.OpGreen: "green", api.OpRed: "red", api.OpVar: "var", api.OpTimer: "timer", api.OpCounter: "counter", api.OpDet: "det",
}

// told is an expression for a failure's text, node by node.
func told(e []api.Node) string {
	var parts []string
	for _, n := range e {
		switch {
		case n.Op == api.OpInt:
			parts = append(parts, strconv.Itoa(int(n.Val)))
		case n.Op < api.OpNeg && n.Op != api.OpElapsed:
			parts = append(parts, signs[n.Op]+strconv.Itoa(int(n.Val)))
		default:
			parts = append(parts, signs[n.Op])
		}
	}
	return strings.Join(parts, " ")
}

// toldBody is the same of statements.
func toldBody(list []api.Stmt) string {
	names := []string{"?", "set", "reset", "run", "stop", "count", "clear", "if", "else", "end", "zero"}
	var parts []string
	for _, s := range list {
		parts = append(parts, fmt.Sprintf("%s %d %s", names[s.Kind], s.Ix, told(s.Expr)))
	}
	return strings.Join(parts, "; ")
}

// toldKnown is what is known, for a failure's text.
func toldKnown(k api.Known) string {
	text := fmt.Sprintf("steady %v green %x has %x:", k.Steady, k.Green, k.Has)
	for v, w := range k.Vals {
		if w != 0 || k.Has>>v&1 == 1 {
			text += fmt.Sprintf(" %d=%d", v, w)
		}
	}
	return text
}

func node(op int, val int32) api.Node { return api.Node{Op: op, Val: val} }

func leaf(op int, val int32) []api.Node { return []api.Node{node(op, val)} }

// over is an operator with its operands.
func over(op int, operands ...[]api.Node) []api.Node {
	return append(slices.Concat(operands...), node(op, 0))
}

// within is a number whose range is that and which can be each word of it.
func within(v int32, lo, hi int64) []api.Node {
	return over(api.OpMax, over(api.OpMin, leaf(api.OpVar, v), leaf(api.OpInt, int32(hi))), leaf(api.OpInt, int32(lo)))
}

// knowing is what is known where those variables are those words: knowing(0, 4) is x = 4.
func knowing(pairs ...int32) api.Known {
	var k api.Known
	for i := 0; i < len(pairs); i += 2 {
		k.Has |= 1 << pairs[i]
		k.Vals[pairs[i]] = pairs[i+1]
	}
	return k
}

func steady(green uint64, pairs ...int32) api.Known {
	k := knowing(pairs...)
	k.Steady, k.Green = true, green
	return k
}

// same tells whether two values are equal, a nil list and an empty one too.
func same(x, y any) bool { return sameValues(reflect.ValueOf(x), reflect.ValueOf(y)) }

func sameValues(v, w reflect.Value) bool {
	switch v.Kind() {
	case reflect.Struct:
		for i := range v.NumField() {
			if !sameValues(v.Field(i), w.Field(i)) {
				return false
			}
		}
		return true
	case reflect.Slice:
		if v.Len() != w.Len() {
			return false
		}
		for i := range v.Len() {
			if !sameValues(v.Index(i), w.Index(i)) {
				return false
			}
		}
		return true
	}
	return v.Equal(w)
}

// copied is a value with new memory throughout, and spare room behind each list.
func copied[T any](x T) T {
	v := reflect.New(reflect.TypeOf(x)).Elem()
	v.Set(reflect.ValueOf(x))
	copyLists(v)
	return v.Interface().(T)
}

func copyLists(v reflect.Value) {
	switch v.Kind() {
	case reflect.Struct:
		for i := range v.NumField() {
			copyLists(v.Field(i))
		}
	case reflect.Slice:
		list := reflect.MakeSlice(v.Type(), v.Len(), v.Len()+2)
		reflect.Copy(list, v)
		v.Set(list)
		for i := range v.Len() {
			copyLists(v.Index(i))
		}
	}
}

// piece is the memory of a list, its spare room too.
type piece struct{ from, to uintptr }

func piecesOf(v reflect.Value) []piece {
	var all []piece
	switch v.Kind() {
	case reflect.Struct:
		for i := range v.NumField() {
			all = append(all, piecesOf(v.Field(i))...)
		}
	case reflect.Slice:
		if v.Cap() > 0 {
			all = append(all, piece{v.Pointer(), v.Pointer() + uintptr(v.Cap())*v.Type().Elem().Size()})
		}
		for i := range v.Len() {
			all = append(all, piecesOf(v.Index(i))...)
		}
	}
	return all
}

// shares tells whether two lists of the values have memory in common.
func shares(values ...any) bool {
	var all []piece
	for _, x := range values {
		all = append(all, piecesOf(reflect.ValueOf(x))...)
	}
	slices.SortFunc(all, func(a, b piece) int { return int(a.from) - int(b.from) })
	for i := 1; i < len(all); i++ {
		if all[i].from < all[i-1].to {
			return true
		}
	}
	return false
}

func pick[T any](r *rand.Rand, list ...T) T { return list[r.Intn(len(list))] }

// fields are all numbers, texts, bools and lists of a value.
func fields(v reflect.Value) []reflect.Value {
	switch v.Kind() {
	case reflect.Struct:
		var list []reflect.Value
		for i := range v.NumField() {
			list = append(list, fields(v.Field(i))...)
		}
		return list
	case reflect.Slice:
		list := []reflect.Value{v}
		for i := range v.Len() {
			list = append(list, fields(v.Index(i))...)
		}
		return list
	}
	return []reflect.Value{v}
}

// spoilt is a copy of a value with one field changed, whichever.
func spoilt[T any](r *rand.Rand, x T) T {
	x = copied(x)
	all := fields(reflect.ValueOf(&x).Elem())
	v := all[r.Intn(len(all))]
	switch v.Kind() {
	case reflect.Int, reflect.Int32:
		n := pick(r, -2, -1, 0, 1, 2, 3, 7, 10, 11, 20, 21, 30, 37, 40, 50, 52, 63, 64, 255, 256, 3601, least, most, v.Int()-1, v.Int()+1)
		if v.Kind() == reflect.Int && r.Intn(8) == 0 {
			n = pick[int64](r, -1<<63, 1<<63-1, 1<<32, -1<<32)
		}
		v.SetInt(n)
	case reflect.Uint64:
		v.SetUint(pick(r, 0, 1<<63, ^uint64(0), v.Uint()^1<<r.Intn(64), 1<<r.Intn(6)))
	case reflect.String:
		v.SetString(pick(r, "", "min", "a b", "z", "g0", "s0"))
	case reflect.Bool:
		v.SetBool(!v.Bool())
	case reflect.Slice:
		spoilList(r, v)
	}
	return x
}

func spoilList(r *rand.Rand, v reflect.Value) {
	one := reflect.New(v.Type().Elem()).Elem()
	if v.Len() == 0 {
		v.Set(reflect.Append(v, one))
		return
	}
	i, j := r.Intn(v.Len()), r.Intn(v.Len())
	switch r.Intn(4) {
	case 0:
		v.Set(reflect.AppendSlice(v.Slice3(0, i, i), v.Slice(i+1, v.Len())))
	case 1:
		one.Set(v.Index(i))
		v.Set(reflect.Append(v, one))
		copyLists(v)
	case 2:
		one.Set(v.Index(i))
		v.Index(i).Set(v.Index(j))
		v.Index(j).Set(one)
	case 3:
		v.Set(reflect.Append(v, one))
	}
}
