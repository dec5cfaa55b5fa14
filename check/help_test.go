package check_test

import (
	"fmt"
	"reflect"
	"slices"
	"strings"
	"testing"

	"junction/api"
	"junction/tree"
)

func at(line, col int) api.Pos { return api.Pos{Line: line, Col: col} }

func fault(e api.Errno, where api.Pos) api.Fault { return api.Fault{Code: e, At: where} }

// marked reads a plan's body, in which a @ (or none) stands where the fault is.
func marked(t *testing.T, body string) (api.Plan, api.Pos) {
	t.Helper()
	text := "plan p { " + body + " }"
	var where api.Pos
	if i := strings.Index(text, "@"); i >= 0 {
		where, text = at(1, i+1), text[:i]+text[i+1:]
	}
	p, f := tree.Parse(text)
	if f != (api.Fault{}) {
		t.Fatalf("%s: %v", text, f)
	}
	return p, where
}

func parsed(t *testing.T, body string) api.Plan {
	t.Helper()
	p, _ := marked(t, body)
	return p
}

func exprOf(t *testing.T, text string) []api.Node {
	t.Helper()
	e, f := tree.ParseExpr(text)
	if f != (api.Fault{}) {
		t.Fatalf("%s: %v", text, f)
	}
	return e
}

// node is a leaf of a typed plan, or an operator.
func node(op int, val ...int32) api.Node {
	n := api.Node{Op: op}
	if len(val) > 0 {
		n.Val = val[0]
	}
	return n
}

func nodes(ops ...int) []api.Node {
	var e []api.Node
	for _, op := range ops {
		e = append(e, node(op))
	}
	return e
}

// same tells whether two values are equal, a nil list and an empty one too.
func same(x, y any) bool { return sameValues(reflect.ValueOf(x), reflect.ValueOf(y)) }

func sameValues(v, w reflect.Value) bool {
	switch v.Kind() {
	case reflect.Struct:
		for i := range v.NumField() {
			if !sameValues(v.Field(i), w.Field(i)) {
				return false
			}
		}
		return true
	case reflect.Slice:
		if v.Len() != w.Len() {
			return false
		}
		for i := range v.Len() {
			if !sameValues(v.Index(i), w.Index(i)) {
				return false
			}
		}
		return true
	}
	return v.Equal(w)
}

// copied is a value with new memory throughout.
func copied[T any](x T) T {
	v := reflect.New(reflect.TypeOf(x)).Elem()
	v.Set(reflect.ValueOf(x))
	copyLists(v)
	return v.Interface().(T)
}

func copyLists(v reflect.Value) {
	switch v.Kind() {
	case reflect.Struct:
		for i := range v.NumField() {
			copyLists(v.Field(i))
		}
	case reflect.Slice:
		list := reflect.MakeSlice(v.Type(), v.Len(), v.Len())
		reflect.Copy(list, v)
		v.Set(list)
		for i := range v.Len() {
			copyLists(v.Index(i))
		}
	}
}

// piece is the memory of a list, its spare room too.
type piece struct{ from, to uintptr }

// pieces are those of all lists of a value.
func pieces(x any) []piece {
	var out []piece
	var walk func(v reflect.Value)
	walk = func(v reflect.Value) {
		switch v.Kind() {
		case reflect.Struct:
			for i := range v.NumField() {
				walk(v.Field(i))
			}
		case reflect.Slice:
			if v.Cap() > 0 {
				out = append(out, piece{v.Pointer(), v.Pointer() + uintptr(v.Cap())*v.Type().Elem().Size()})
			}
			for i := range v.Len() {
				walk(v.Index(i))
			}
		}
	}
	walk(reflect.ValueOf(x))
	return out
}

// shares tells whether two lists of the values have memory in common.
func shares(list ...any) bool {
	var all []piece
	for _, x := range list {
		all = append(all, pieces(x)...)
	}
	slices.SortFunc(all, func(a, b piece) int {
		if a.from < b.from {
			return -1
		}
		return 1
	})
	for i := 1; i < len(all); i++ {
		if all[i].from < all[i-1].to {
			return true
		}
	}
	return false
}

// letters is a name that no keyword is, another one for each number.
func letters(i int) string { return fmt.Sprintf("n%d", i) }

// declared are declarations of x, one of each kind that declares a name, by the kind's number.
var declared = map[int]string{
	api.DeConst:    "const x = 1;",
	api.DeGroup:    "group x vehicle min 5 amber 3;",
	api.DeDetector: "detector x;",
	api.DeTimer:    "timer x;",
	api.DeCounter:  "counter x;",
	api.DeVar:      "var x = 1;",
	api.DeCond:     "cond x = true;",
	api.DeStage:    "stage x { green; }",
}

// smallPlan is DOC.md's example.
const smallPlan = `plan small {
	group main vehicle min 7 amber 3 lead 2;
	group side vehicle min 5 amber 3;
	group walk pedestrian min 6 amber 4;
	conflict main side 5 6;
	conflict main walk 4 8;
	detector loop hold 2;
	detector push latch;
	timer rest;
	counter calls;
	var longest = 20;
	cond due = elapsed >= longest or loop and elapsed > 9;
	start flow;
	stage flow {
		green main;
		enter {
			reset rest;
			run rest;
		}
		next cross when push;
		next turn when due;
	}
	stage turn {
		green side;
		next flow when not loop or elapsed >= 12;
	}
	stage cross {
		green side, walk;
		enter {
			count calls;
			clear push;
		}
		next flow when elapsed >= 6;
	}
}
`
