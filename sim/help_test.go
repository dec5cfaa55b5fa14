package sim_test

import (
	"fmt"
	"math"
	"math/rand"
	"reflect"
	"slices"
	"strings"
	"testing"

	"junction/api"
	"junction/check"
	"junction/sim"
	"junction/tree"
)

// twoPlan is the chapter's example.
const twoPlan = `plan two {
	group a vehicle min 2 amber 1;
	group b pedestrian min 3 amber 0;
	conflict a b 2 1;
	detector push latch;
	counter walks;
	start cars;
	stage cars { green a; next walk when push; }
	stage walk { green b; enter { count walks; } during { if red(a) { clear push; } } next cars when elapsed >= 2; }
}`

// smallPlan is DOC.md's example.
const smallPlan = `plan small {
	group main vehicle min 7 amber 3 lead 2;
	group side vehicle min 5 amber 3;
	group walk pedestrian min 6 amber 4;
	conflict main side 5 6;
	conflict main walk 4 8;
	detector loop hold 2;
	detector push latch;
	timer rest;
	counter calls;
	var longest = 20;
	cond due = elapsed >= longest or loop and elapsed > 9;
	start flow;
	stage flow { green main; enter { reset rest; run rest; } next cross when push; next turn when due; }
	stage turn { green side; next flow when not loop or elapsed >= 12; }
	stage cross { green side, walk; enter { count calls; clear push; } next flow when elapsed >= 6; }
}`

// resolved is the typed plan of a text.
func resolved(t *testing.T, text string) api.Typed {
	t.Helper()
	p, f := tree.Parse(text)
	if f != (api.Fault{}) {
		t.Fatalf("%s: %v", text, f)
	}
	x, f := check.Resolve(p)
	if f != (api.Fault{}) {
		t.Fatalf("%s: %v", text, f)
	}
	return x
}

// planOf is the typed plan of a body.
func planOf(t *testing.T, body string) api.Typed {
	t.Helper()
	return resolved(t, "plan p { "+body+" }")
}

// begun is a new Sim of a plan that is sound.
func begun(t *testing.T, x api.Typed) *sim.Sim {
	t.Helper()
	s, e := sim.New(x)
	if e != api.OK || s == nil {
		t.Fatalf("New: %d of %.9000s", e, fmt.Sprintf("%+v", x))
	}
	return s
}

// behind is the state behind the ticks of those inputs.
func behind(t *testing.T, x api.Typed, ins ...uint64) api.State {
	t.Helper()
	s := begun(t, x)
	for _, in := range ins {
		s.Tick(in)
	}
	return s.State()
}

// resumed is a Sim in a state that is of the plan.
func resumed(t *testing.T, x api.Typed, y api.State) *sim.Sim {
	t.Helper()
	s, e := sim.Resume(x, y)
	if e != api.OK || s == nil {
		t.Fatalf("Resume: %d of %+v in %+v", e, y, x)
	}
	return s
}

// told is what entries tell, each as its picture and its stage.
func told(list []api.Entry) string {
	var parts []string
	for _, e := range list {
		parts = append(parts, fmt.Sprintf("%s %d", e.Heads, e.Stage))
	}
	return strings.Join(parts, ", ")
}

func node(op int, val int32) api.Node { return api.Node{Op: op, Val: val} }

func leaf(op int, val int32) []api.Node { return []api.Node{node(op, val)} }

// over is an operator with its operands.
func over(op int, operands ...[]api.Node) []api.Node {
	return append(slices.Concat(operands...), node(op, 0))
}

// same tells whether two values are equal, a nil list and an empty one too.
func same(x, y any) bool { return sameValues(reflect.ValueOf(x), reflect.ValueOf(y)) }

func sameValues(v, w reflect.Value) bool {
	switch v.Kind() {
	case reflect.Struct:
		for i := range v.NumField() {
			if !sameValues(v.Field(i), w.Field(i)) {
				return false
			}
		}
		return true
	case reflect.Slice:
		if v.Len() != w.Len() {
			return false
		}
		for i := range v.Len() {
			if !sameValues(v.Index(i), w.Index(i)) {
				return false
			}
		}
		return true
	}
	return v.Equal(w)
}

// copied is a value with new memory throughout.
func copied[T any](x T) T {
	v := reflect.New(reflect.TypeOf(x)).Elem()
	v.Set(reflect.ValueOf(x))
	copyLists(v)
	return v.Interface().(T)
}

func copyLists(v reflect.Value) {
	switch v.Kind() {
	case reflect.Struct:
		for i := range v.NumField() {
			copyLists(v.Field(i))
		}
	case reflect.Slice:
		list := reflect.MakeSlice(v.Type(), v.Len(), v.Len())
		reflect.Copy(list, v)
		v.Set(list)
		for i := range v.Len() {
			copyLists(v.Index(i))
		}
	}
}

// ruin writes over all that the lists of a value reach, their spare room too.
func ruin(x any) { ruinValue(reflect.ValueOf(x)) }

func ruinValue(v reflect.Value) {
	switch v.Kind() {
	case reflect.Struct:
		for i := range v.NumField() {
			ruinValue(v.Field(i))
		}
	case reflect.Slice:
		v = v.Slice(0, v.Cap())
		for i := range v.Len() {
			ruinValue(v.Index(i))
		}
	case reflect.Int, reflect.Int32:
		if v.CanSet() {
			v.SetInt(-77)
		}
	case reflect.Uint64:
		if v.CanSet() {
			v.SetUint(^v.Uint())
		}
	case reflect.String:
		if v.CanSet() {
			v.SetString("ruin")
		}
	case reflect.Bool:
		if v.CanSet() {
			v.SetBool(!v.Bool())
		}
	}
}

// piece is the memory of a list, its spare room too.
type piece struct{ from, to uintptr }

// shares tells whether two lists of the states have memory in common.
func shares(states ...api.State) bool {
	var all []piece
	for _, s := range states {
		for _, x := range []any{s.Heads.Aspect, s.Heads.In, s.Heads.Away, s.Vars, s.Timers, s.Counters, s.Dets} {
			if v := reflect.ValueOf(x); v.Cap() > 0 {
				all = append(all, piece{v.Pointer(), v.Pointer() + uintptr(v.Cap())*v.Type().Elem().Size()})
			}
		}
	}
	slices.SortFunc(all, func(a, b piece) int { return int(a.from) - int(b.from) })
	for i := 1; i < len(all); i++ {
		if all[i].from < all[i-1].to {
			return true
		}
	}
	return false
}

func pick[T any](r *rand.Rand, list ...T) T { return list[r.Intn(len(list))] }

// fields are all numbers, texts, bools and lists of a value.
func fields(v reflect.Value) []reflect.Value {
	switch v.Kind() {
	case reflect.Struct:
		var list []reflect.Value
		for i := range v.NumField() {
			list = append(list, fields(v.Field(i))...)
		}
		return list
	case reflect.Slice:
		list := []reflect.Value{v}
		for i := range v.Len() {
			list = append(list, fields(v.Index(i))...)
		}
		return list
	}
	return []reflect.Value{v}
}

// spoilt is a copy of a value with one field changed, whichever.
func spoilt[T any](r *rand.Rand, x T) T {
	x = copied(x)
	all := fields(reflect.ValueOf(&x).Elem())
	v := all[r.Intn(len(all))]
	switch v.Kind() {
	case reflect.Int, reflect.Int32:
		n := pick(r, -2, -1, 0, 1, 2, 3, 10, 63, 64, 255, 256, 3601, math.MinInt32, math.MaxInt32, v.Int()-1, v.Int()+1)
		if v.Kind() == reflect.Int && r.Intn(8) == 0 {
			n = pick[int64](r, math.MinInt64, math.MaxInt64, 1<<32, -1<<32)
		}
		v.SetInt(n)
	case reflect.Uint64:
		v.SetUint(pick(r, 0, 1<<63, ^uint64(0), v.Uint()^1<<r.Intn(64), 1<<r.Intn(6)))
	case reflect.String:
		v.SetString(pick(r, "", "min", "a b", "z", "g0", "s0"))
	case reflect.Bool:
		v.SetBool(!v.Bool())
	case reflect.Slice:
		spoilList(r, v)
	}
	return x
}

func spoilList(r *rand.Rand, v reflect.Value) {
	one := reflect.New(v.Type().Elem()).Elem()
	if v.Len() == 0 {
		v.Set(reflect.Append(v, one))
		return
	}
	i, j := r.Intn(v.Len()), r.Intn(v.Len())
	switch r.Intn(4) {
	case 0:
		v.Set(reflect.AppendSlice(v.Slice3(0, i, i), v.Slice(i+1, v.Len())))
	case 1:
		one.Set(v.Index(i))
		v.Set(reflect.Append(v, one))
		copyLists(v)
	case 2:
		one.Set(v.Index(i))
		v.Index(i).Set(v.Index(j))
		v.Index(j).Set(one)
	case 3:
		v.Set(reflect.Append(v, one))
	}
}
