package tree_test

import (
	"math/rand"
	"reflect"
	"slices"
	"strings"
	"testing"

	"junction/api"
	"junction/tree"
)

var posType = reflect.TypeFor[api.Pos]()

// visit goes to every value within a value: fields, elements, and the lists themselves.
func visit(v reflect.Value, see func(reflect.Value)) {
	see(v)
	switch v.Kind() {
	case reflect.Struct:
		if v.Type() == posType {
			return
		}
		for i := range v.NumField() {
			visit(v.Field(i), see)
		}
	case reflect.Slice, reflect.Array:
		for i := range v.Len() {
			visit(v.Index(i), see)
		}
	}
}

// copied is a deep copy.
func copied(p api.Plan) api.Plan {
	out := reflect.New(reflect.TypeOf(p)).Elem()
	out.Set(reflect.ValueOf(p))
	visit(out, func(v reflect.Value) {
		if v.Kind() == reflect.Slice && !v.IsNil() {
			list := reflect.MakeSlice(v.Type(), v.Len(), v.Len())
			reflect.Copy(list, v)
			v.Set(list)
		}
	})
	return out.Interface().(api.Plan)
}

// modelBare is Bare by walking over every field there is.
func modelBare(p api.Plan) api.Plan {
	p = copied(p)
	visit(reflect.ValueOf(&p).Elem(), func(v reflect.Value) {
		if v.Type() == posType {
			v.SetZero()
		}
	})
	return p
}

// equal is whether two plans are alike in everything, places too; a nil list is an empty one.
func equal(p, q api.Plan) bool {
	p, q = copied(p), copied(q)
	for _, x := range []*api.Plan{&p, &q} {
		visit(reflect.ValueOf(x).Elem(), func(v reflect.Value) {
			if v.Kind() == reflect.Slice && v.Len() == 0 {
				v.SetZero()
			}
		})
	}
	return reflect.DeepEqual(p, q)
}

// junk is a plan whose fields mean nothing.
func junk(r *rand.Rand) api.Plan {
	var p api.Plan
	fill(r, reflect.ValueOf(&p).Elem(), 3)
	return p
}

func fill(r *rand.Rand, v reflect.Value, most int) {
	switch v.Kind() {
	case reflect.Int, reflect.Int32:
		v.SetInt(int64(r.Intn(13) - 2))
	case reflect.String:
		v.SetString([]string{"", "a", "b", "min", "\xff"}[r.Intn(5)])
	case reflect.Slice:
		if n := r.Intn(most + 1); n > 0 || r.Intn(2) == 0 {
			v.Set(reflect.MakeSlice(v.Type(), n, n+r.Intn(3)))
		}
		for i := range v.Len() {
			fill(r, v.Index(i), 2)
		}
	case reflect.Array:
		for i := range v.Len() {
			fill(r, v.Index(i), most)
		}
	case reflect.Struct:
		for i := range v.NumField() {
			fill(r, v.Field(i), most)
		}
	}
}

// wild is a plan that has been read, one as it might be, or junk.
func wild(r *rand.Rand) api.Plan {
	switch r.Intn(3) {
	case 0:
		w := newWriter(r)
		return w.plan(somePlan(r, 5))
	case 1:
		p, _ := tree.Parse(all)
		return p
	}
	return junk(r)
}

// room is the memory of a list, its spare room with it.
type room struct{ from, to uintptr }

// rooms are those of all lists within the values.
func rooms(values ...any) []room {
	var list []room
	for _, x := range values {
		v := reflect.New(reflect.TypeOf(x)).Elem()
		v.Set(reflect.ValueOf(x))
		visit(v, func(v reflect.Value) {
			if v.Kind() == reflect.Slice && v.Cap() > 0 {
				from := v.Pointer()
				list = append(list, room{from, from + uintptr(v.Cap())*v.Type().Elem().Size()})
			}
		})
	}
	return list
}

// apart tells whether no two lists within the values share memory.
func apart(values ...any) bool {
	list := rooms(values...)
	slices.SortFunc(list, func(a, b room) int {
		if a.from < b.from {
			return -1
		}
		return 1
	})
	for i := 1; i < len(list); i++ {
		if list[i-1].to > list[i].from {
			return false
		}
	}
	return true
}

// P3.8
func TestBare(t *testing.T) {
	r := rand.New(rand.NewSource(38))
	for range 3000 {
		p := wild(r)
		before := copied(p)
		b := tree.Bare(p)
		if !equal(b, modelBare(p)) {
			t.Fatalf("Bare(%+v) = %+v", p, b)
		}
		if !reflect.DeepEqual(p, before) {
			t.Fatalf("Bare made %+v of %+v", p, before)
		}
		if !apart(p, b) {
			t.Fatalf("Bare(%+v) shares memory", p)
		}
		if !equal(tree.Bare(b), b) || !tree.Same(p, b) {
			t.Fatalf("Bare(%+v) is %+v", p, b)
		}
	}
	if b := tree.Bare(api.Plan{}); b.Name != "" || len(b.Decls) != 0 {
		t.Errorf("Bare of nothing is %+v", b)
	}
}

// P3.8: lists that share memory with one another are handed in; the answer's share none.
func TestBareOfSharedLists(t *testing.T) {
	e := make([]api.Node, 3, 9)
	stmts := []api.Stmt{{Kind: 1, Expr: e}, {Kind: 7, Expr: e[:2]}, {Kind: 9, Expr: e[1:1]}}
	names := []string{"a", "b"}
	s := api.Stage{Green: names[:1], Enter: stmts, During: stmts[1:], Leave: stmts[:0], Nexts: []api.Next{{When: e}}}
	p := api.Plan{Decls: []api.Decl{{Expr: e, Stage: s}, {Expr: e[:0], Stage: s}}}
	b := tree.Bare(p)
	if !apart(b) {
		t.Errorf("lists of the answer share memory")
	}
	for _, own := range rooms(b) {
		for _, given := range rooms(p) {
			if own.from < given.to && given.from < own.to {
				t.Fatalf("the answer shares memory with what was handed in")
			}
		}
	}
	if !tree.Same(p, b) {
		t.Errorf("%+v", b)
	}
}

// P3.9: two plans that are alike, with each field changed by itself.
func TestSame(t *testing.T) {
	r := rand.New(rand.NewSource(39))
	plan, _ := tree.Parse(all)
	plans := []api.Plan{plan, {}, {Name: "p"}}
	for range 60 {
		plans = append(plans, wild(r))
	}
	changes, kinds := 0, map[reflect.Kind]int{}
	for _, p := range plans {
		if !tree.Same(p, p) || !tree.Same(p, copied(p)) {
			t.Fatalf("%+v is not the same as itself", p)
		}
		q := copied(p)
		visit(reflect.ValueOf(&q).Elem(), func(v reflect.Value) {
			old := reflect.New(v.Type()).Elem()
			old.Set(v)
			want := v.Type() == posType
			switch {
			case want:
				v.Set(reflect.ValueOf(at(r.Intn(9)-4, -r.Intn(9))))
			case v.Kind() == reflect.Slice:
				v.Set(reflect.Append(v.Slice3(0, v.Len(), v.Len()), reflect.Zero(v.Type().Elem())))
			case v.Kind() == reflect.String:
				v.SetString(v.String() + "x")
			case v.Kind() == reflect.Int, v.Kind() == reflect.Int32:
				v.SetInt(v.Int() + int64(1-2*r.Intn(2)))
			default:
				return
			}
			changes++
			kinds[v.Kind()]++
			if tree.Same(p, q) != want || tree.Same(q, p) != want {
				t.Fatalf("Same is %v of\n%+v and\n%+v", !want, p, q)
			}
			v.Set(old)
		})
		if !reflect.DeepEqual(p, q) {
			t.Fatalf("a change of %+v was left", p)
		}
	}
	if changes < 1000 || kinds[reflect.Slice] < 100 || kinds[reflect.Struct] < 100 {
		t.Errorf("only %v", kinds)
	}
}

// P3.9: a list is cut short, its elements change places, or it is nil where it was empty.
func TestSameOfLists(t *testing.T) {
	p, _ := tree.Parse(all)
	q := copied(p)
	visit(reflect.ValueOf(&q).Elem(), func(v reflect.Value) {
		if v.Kind() != reflect.Slice || v.Len() == 0 {
			return
		}
		old := v.Slice(0, v.Len())
		for n := range v.Len() {
			v.Set(old.Slice(0, n))
			if tree.Same(p, q) || tree.Same(q, p) {
				t.Errorf("%v, cut to %d, is the same", old, n)
			}
		}
		v.Set(old)
	})
	q.Decls[0], q.Decls[1] = q.Decls[1], q.Decls[0]
	if tree.Same(p, q) {
		t.Errorf("two declarations have changed places")
	}
	full := api.Plan{Decls: []api.Decl{{Expr: []api.Node{}, Stage: someStages[1]}, {Stage: api.Stage{Enter: []api.Stmt{{Expr: []api.Node{}}}, Nexts: []api.Next{{When: []api.Node{}}}}}}}
	none := api.Plan{Decls: []api.Decl{{}, {Stage: api.Stage{Enter: []api.Stmt{{}}, Nexts: []api.Next{{}}}}}}
	if !tree.Same(full, none) || !tree.Same(none, full) || !tree.Same(api.Plan{}, api.Plan{Decls: []api.Decl{}}) {
		t.Errorf("an empty list is not the same as a nil one")
	}
}

// P3.9: plans that have nothing to do with one another, against the fields' equality.
func TestSameAtRandom(t *testing.T) {
	r := rand.New(rand.NewSource(93))
	tiny := func() api.Plan {
		p := api.Plan{Name: []string{"a", "b"}[r.Intn(2)]}
		for range r.Intn(2) {
			d := api.Decl{Kind: r.Intn(2), At: at(r.Intn(2), 0)}
			for range r.Intn(2) {
				d.Expr = append(d.Expr, api.Node{Op: r.Intn(2), At: at(r.Intn(2), 1)})
			}
			p.Decls = append(p.Decls, d)
		}
		return p
	}
	count := map[bool]int{}
	for range 5000 {
		p, q := tiny(), tiny()
		want := equal(modelBare(p), modelBare(q))
		count[want]++
		if tree.Same(p, q) != want {
			t.Fatalf("Same(%+v, %+v) is not %v", p, q, want)
		}
	}
	if count[true] < 500 || count[false] < 500 {
		t.Errorf("%v", count)
	}
}

// P3.10: an answer's lists share no memory with one another, and not with those of another call.
func TestAnswersAreNewMemory(t *testing.T) {
	r := rand.New(rand.NewSource(310))
	for range 300 {
		w := newWriter(r)
		w.plan(somePlan(r, 6))
		p, _ := tree.Parse(w.text.String())
		q, _ := tree.Parse(w.text.String())
		if !apart(p, q) {
			t.Fatalf("lists of Parse(%q) share memory", w.text.String())
		}
	}
	d, _ := tree.ParseExpr("a + b * c")
	e, _ := tree.ParseExpr("a + b * c")
	if !apart(d, e) {
		t.Errorf("lists of ParseExpr share memory")
	}
}

// P3.10: no call changes what it is handed.
func TestNothingIsChanged(t *testing.T) {
	r := rand.New(rand.NewSource(1030))
	for range 1000 {
		p, q := wild(r), wild(r)
		beforeP, beforeQ := copied(p), copied(q)
		tree.Formed(p)
		tree.Same(p, q)
		tree.Bare(p)
		for _, d := range p.Decls {
			tree.FormedExpr(d.Expr)
			tree.Nest(d.Expr)
			for i := -1; i < 4; i++ {
				tree.Span(d.Expr, i)
			}
		}
		if !reflect.DeepEqual(p, beforeP) || !reflect.DeepEqual(q, beforeQ) {
			t.Fatalf("%+v or %+v has been changed", beforeP, beforeQ)
		}
	}
}

// P3.10: one and the same answer at each call, whatever has been asked in between.
func TestNothingIsKept(t *testing.T) {
	first, _ := tree.Parse(all)
	e, _ := tree.ParseExpr("a - b")
	for _, src := range []string{"plan p {", "plan p { cond c = ((((((a; }", "", "$", block("if a { if b {"), all} {
		tree.Parse(src)
		tree.ParseExpr(src)
		again, f := tree.Parse(all)
		if f != (api.Fault{}) || !reflect.DeepEqual(first, again) {
			t.Errorf("behind %q the plan is read otherwise: %v", src, f)
		}
		if d, f := tree.ParseExpr("a - b"); f != (api.Fault{}) || !reflect.DeepEqual(d, e) {
			t.Errorf("behind %q the expression is read as %v, %v", src, d, f)
		}
	}
}

// P3.10: strings of bytes at random, and the longest texts there are: every call ends, and none panics.
func TestAnyText(t *testing.T) {
	r := rand.New(rand.NewSource(1003))
	words := []string{"plan", "p", "{", "}", "stage", "green", ";", "enter", "if", "else", "(", ")", "-", "not", "a", "1", "=", "next", "when", "cond", "min", ",", "or", "\n", "#", "$", "\xff", "0x", "_"}
	for range 3000 {
		src := ""
		for range r.Intn(30) {
			src += words[r.Intn(len(words))] + []string{"", " "}[r.Intn(2)]
		}
		for _, rule := range []string{"plan", "alone"} {
			if got, want := faultOf(t, rule, src), modelFault(rule, src); got != want {
				t.Fatalf("%s: the fault of %q is %v, want %v", rule, src, got, want)
			}
		}
	}
	long := strings.Repeat
	for _, src := range []string{long("(", 65536), long("-", 65536), long("not ", 16384), long("a+", 32768), long("plan ", 13107), long("\n", 65536), block(long("if a{}", 10900)), block(long("x=1;", 16000)), block(long("if a{", 13000)), block(long("x=-a;run t;", 5000)), "plan p{stage s{green a" + long(",a", 32000) + ";}}", "plan p{stage s{green;" + long("next a when b;", 4600) + "}}"} {
		for _, rule := range []string{"plan", "alone"} {
			if got, want := faultOf(t, rule, src), modelFault(rule, src); got != want {
				t.Fatalf("%s: the fault of %.60q.. is %v, want %v", rule, src, got, want)
			}
		}
	}
}
