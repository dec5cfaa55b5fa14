package driver_test

import (
	"fmt"
	"math/rand"
	"reflect"
	"slices"
	"strings"
	"testing"

	"junction/api"
	"junction/pretty"
	"junction/tree"
)

// smallPlan is DOC.md's example, line by line.
const smallPlan = `plan small {
	group main vehicle min 7 amber 3 lead 2;
	group side vehicle min 5 amber 3;
	group walk pedestrian min 6 amber 4;
	conflict main side 5 6;
	conflict main walk 4 8;
	detector loop hold 2;
	detector push latch;
	timer rest;
	counter calls;
	var longest = 20;
	cond due = elapsed >= longest or loop and elapsed > 9;
	start flow;
	stage flow {
		green main;
		enter {
			reset rest;
			run rest;
		}
		next cross when push;
		next turn when due;
	}
	stage turn {
		green side;
		next flow when not loop or elapsed >= 12;
	}
	stage cross {
		green side, walk;
		enter {
			count calls;
			clear push;
		}
		next flow when elapsed >= 6;
	}
}
`

// smallWith is small with one text of it changed.
func smallWith(old, new string) string {
	if strings.Count(smallPlan, old) == 0 {
		panic(old)
	}
	return strings.Replace(smallPlan, old, new, 1)
}

func at(line, col int) api.Pos { return api.Pos{Line: line, Col: col} }

func fault(e api.Errno, line, col int) api.Fault { return api.Fault{Code: e, At: at(line, col)} }

// marked is a text without its @, and the place at which that stood; of none the zero place.
func marked(text string) (string, api.Pos) {
	i := strings.Index(text, "@")
	if i < 0 {
		return text, api.Pos{}
	}
	line := strings.Count(text[:i], "\n")
	return text[:i] + text[i+1:], at(line+1, i-strings.LastIndex(text[:i], "\n"))
}

func parsed(t *testing.T, text string) api.Plan {
	t.Helper()
	p, f := tree.Parse(text)
	if f != (api.Fault{}) {
		t.Fatalf("%s: %v", text, f)
	}
	return p
}

// printed is the text of a well-formed plan.
func printed(t *testing.T, p api.Plan) string {
	t.Helper()
	text, errno := pretty.Print(p)
	if errno != api.OK {
		t.Fatalf("Print: %d of %.9000s", errno, fmt.Sprintf("%+v", p))
	}
	return text
}

func pick[T any](r *rand.Rand, list ...T) T { return list[r.Intn(len(list))] }

// same tells whether two values are equal, a nil list and an empty one too.
func same(x, y any) bool { return sameValues(reflect.ValueOf(x), reflect.ValueOf(y)) }

func sameValues(v, w reflect.Value) bool {
	switch v.Kind() {
	case reflect.Struct:
		for i := range v.NumField() {
			if !sameValues(v.Field(i), w.Field(i)) {
				return false
			}
		}
		return true
	case reflect.Slice:
		if v.Len() != w.Len() {
			return false
		}
		for i := range v.Len() {
			if !sameValues(v.Index(i), w.Index(i)) {
				return false
			}
		}
		return true
	}
	return v.Equal(w)
}

// copied is a value with new memory throughout, and spare room behind each list.
func copied[T any](x T) T {
	v := reflect.New(reflect.TypeOf(x)).Elem()
	v.Set(reflect.ValueOf(x))
	copyLists(v)
	return v.Interface().(T)
}

func copyLists(v reflect.Value) {
	switch v.Kind() {
	case reflect.Struct:
		for i := range v.NumField() {
			copyLists(v.Field(i))
		}
	case reflect.Slice:
		list := reflect.MakeSlice(v.Type(), v.Len(), v.Len()+2)
		reflect.Copy(list, v)
		v.Set(list)
		for i := range v.Len() {
			copyLists(v.Index(i))
		}
	}
}

// ruin writes over all that the lists of a value reach, their spare room too.
func ruin(x any) { ruinValue(reflect.ValueOf(x)) }

func ruinValue(v reflect.Value) {
	switch v.Kind() {
	case reflect.Struct:
		for i := range v.NumField() {
			ruinValue(v.Field(i))
		}
	case reflect.Slice:
		v = v.Slice(0, v.Cap())
		for i := range v.Len() {
			ruinValue(v.Index(i))
		}
	case reflect.Int, reflect.Int32:
		if v.CanSet() {
			v.SetInt(-77)
		}
	case reflect.Uint64, reflect.Uint8:
		if v.CanSet() {
			v.SetUint(77)
		}
	case reflect.String:
		if v.CanSet() {
			v.SetString("ruin")
		}
	}
}

// piece is the memory of a list, its spare room too.
type piece struct{ from, to uintptr }

func piecesOf(v reflect.Value) []piece {
	var all []piece
	switch v.Kind() {
	case reflect.Struct:
		for i := range v.NumField() {
			all = append(all, piecesOf(v.Field(i))...)
		}
	case reflect.Slice:
		if v.Cap() > 0 {
			all = append(all, piece{v.Pointer(), v.Pointer() + uintptr(v.Cap())*v.Type().Elem().Size()})
		}
		for i := range v.Len() {
			all = append(all, piecesOf(v.Index(i))...)
		}
	}
	return all
}

// shares tells whether two lists of the values have memory in common.
func shares(values ...any) bool {
	var all []piece
	for _, x := range values {
		all = append(all, piecesOf(reflect.ValueOf(x))...)
	}
	slices.SortFunc(all, func(a, b piece) int { return int(a.from) - int(b.from) })
	for i := 1; i < len(all); i++ {
		if all[i].from < all[i-1].to {
			return true
		}
	}
	return false
}

// visit goes over all numbers, texts, places and lists of a value.
func visit(v reflect.Value, see func(reflect.Value)) {
	switch v.Kind() {
	case reflect.Struct:
		if v.Type() == reflect.TypeOf(api.Pos{}) {
			see(v)
			return
		}
		for i := range v.NumField() {
			visit(v.Field(i), see)
		}
	case reflect.Slice:
		see(v)
		fallthrough
	case reflect.Array:
		for i := range v.Len() {
			visit(v.Index(i), see)
		}
	default:
		see(v)
	}
}

// moved is a copy of a plan with other places, as the function has them.
func moved(p api.Plan, place func() api.Pos) api.Plan {
	p = copied(p)
	visit(reflect.ValueOf(&p).Elem(), func(v reflect.Value) {
		if v.Type() == reflect.TypeOf(api.Pos{}) {
			v.Set(reflect.ValueOf(place()))
		}
	})
	return p
}

// spoilt is a copy of a plan with one field changed, whichever.
func spoilt(r *rand.Rand, p api.Plan) api.Plan {
	p = copied(p)
	var all []reflect.Value
	visit(reflect.ValueOf(&p).Elem(), func(v reflect.Value) { all = append(all, v) })
	v := all[r.Intn(len(all))]
	switch v.Kind() {
	case reflect.Int, reflect.Int32:
		v.SetInt(pick(r, -1, 0, 1, 2, 3, 5, 9, 10, 11, 61, 3601, -1<<31, 1<<31-1, v.Int()-1, v.Int()+1))
	case reflect.String:
		v.SetString(pick(r, "", "min", "a b", "g0", "s0", "v0", strings.Repeat("z", 33)))
	case reflect.Slice:
		spoilList(r, v)
	}
	return p
}

func spoilList(r *rand.Rand, v reflect.Value) {
	one := reflect.New(v.Type().Elem()).Elem()
	if v.Len() == 0 {
		v.Set(reflect.Append(v, one))
		return
	}
	i, j := r.Intn(v.Len()), r.Intn(v.Len())
	switch r.Intn(4) {
	case 0:
		v.Set(reflect.AppendSlice(v.Slice3(0, i, i), v.Slice(i+1, v.Len())))
	case 1:
		one.Set(v.Index(i))
		v.Set(reflect.Append(v, one))
		copyLists(v)
	case 2:
		one.Set(v.Index(i))
		v.Index(i).Set(v.Index(j))
		v.Index(j).Set(one)
	case 3:
		v.Set(reflect.Append(v, one))
	}
}
