package pretty_test

import (
	"math/rand"
	"reflect"
	"strings"
	"testing"

	"junction/api"
	"junction/pretty"
	"junction/tree"
)

func checkPrint(t *testing.T, p api.Plan, want string) {
	t.Helper()
	if got, errno := pretty.Print(p); got != want || errno != api.OK {
		t.Errorf("Print(%v) = %q, %d, want %q", p, got, errno, want)
	}
}

func checkPrintFails(t *testing.T, p api.Plan, want api.Errno) {
	t.Helper()
	if got, errno := pretty.Print(p); got != "" || errno != want {
		t.Errorf("Print(%.300v) = %.300q, %d, want %d", p, got, errno, want)
	}
}

// lines are those of a text that stands here indented by blanks, two a depth.
func lines(text string) string {
	out := ""
	for _, line := range strings.Split(strings.Trim(text, "\n"), "\n") {
		bare := strings.TrimLeft(line, " ")
		out += strings.Repeat("\t", (len(line)-len(bare))/2) + bare + "\n"
	}
	return out
}

// within is the text of a plan p with those lines between its first and its last.
func within(text string) string {
	out := "plan p {\n"
	for _, line := range strings.SplitAfter(lines(text), "\n") {
		if line != "" {
			out += "\t" + line
		}
	}
	return out + "}\n"
}

func planWith(decls ...api.Decl) api.Plan { return api.Plan{Name: "p", Decls: decls} }

func staged(s api.Stage) api.Plan { return planWith(api.Decl{Kind: api.DeStage, Name: "s", Stage: s}) }

// P4.2: each declaration that is one line.
func TestPrintDeclarations(t *testing.T) {
	n := func(list ...int32) (out [3]int32) {
		copy(out[:], list)
		return out
	}
	for _, c := range []struct {
		d    api.Decl
		want string
	}{
		{api.Decl{Kind: api.DeConst, Name: "k", N: n(7)}, "const k = 7;"},
		{api.Decl{Kind: api.DeConst, Name: "k", N: n(0)}, "const k = 0;"},
		{api.Decl{Kind: api.DeConst, Name: "k", N: n(-7)}, "const k = -7;"},
		{api.Decl{Kind: api.DeConst, Name: "k", N: n(api.MaxWord)}, "const k = 2147483647;"},
		{api.Decl{Kind: api.DeVar, Name: "v", N: n(-api.MaxWord)}, "var v = -2147483647;"},
		{api.Decl{Kind: api.DeVar, Name: "v", N: n(20)}, "var v = 20;"},
		{api.Decl{Kind: api.DeGroup, Name: "g", Sort: api.Vehicle, N: n(5, 3, 1)}, "group g vehicle min 5 amber 3 lead 1;"},
		{api.Decl{Kind: api.DeGroup, Name: "g", Sort: api.Vehicle, N: n(0, 0, 0)}, "group g vehicle min 0 amber 0;"},
		{api.Decl{Kind: api.DeGroup, Name: "g", Sort: api.Pedestrian, N: n(6, 4, 0)}, "group g pedestrian min 6 amber 4;"},
		{api.Decl{Kind: api.DeGroup, Name: "g", Sort: api.Pedestrian, N: n(0, 1, api.MaxWord)}, "group g pedestrian min 0 amber 1 lead 2147483647;"},
		{api.Decl{Kind: api.DeConflict, Name: "a", With: "b", N: n(5, 6)}, "conflict a b 5 6;"},
		{api.Decl{Kind: api.DeConflict, Name: "b", With: "a", N: n(0, 0)}, "conflict b a 0 0;"},
		{api.Decl{Kind: api.DeDetector, Name: "D"}, "detector D;"},
		{api.Decl{Kind: api.DeDetector, Name: "D", Sort: 1}, "detector D latch;"},
		{api.Decl{Kind: api.DeDetector, Name: "D", N: n(3)}, "detector D delay 3;"},
		{api.Decl{Kind: api.DeDetector, Name: "D", N: n(0, 2)}, "detector D hold 2;"},
		{api.Decl{Kind: api.DeDetector, Name: "D", N: n(1, 2)}, "detector D delay 1 hold 2;"},
		{api.Decl{Kind: api.DeDetector, Name: "D", Sort: 1, N: n(3)}, "detector D latch delay 3;"},
		{api.Decl{Kind: api.DeDetector, Name: "D", Sort: 1, N: n(0, 9)}, "detector D latch hold 9;"},
		{api.Decl{Kind: api.DeDetector, Name: "D", Sort: 1, N: n(10, 20)}, "detector D latch delay 10 hold 20;"},
		{api.Decl{Kind: api.DeTimer, Name: "t"}, "timer t;"},
		{api.Decl{Kind: api.DeCounter, Name: "c"}, "counter c;"},
		{api.Decl{Kind: api.DeCond, Name: "q", Expr: over(api.OpMul, over(api.OpAdd, leaf("a"), leaf("b")), leaf("c"))}, "cond q = (a + b) * c;"},
		{api.Decl{Kind: api.DeStart, Name: "s"}, "start s;"},
	} {
		checkPrint(t, planWith(c.d), within(c.want))
	}
}

func command(kind int) api.Stmt { return api.Stmt{Kind: kind, Name: "t"} }

func ifs(name string) api.Stmt { return api.Stmt{Kind: api.StIf, Expr: leaf(name)} }

var elses, ends = api.Stmt{Kind: api.StElse}, api.Stmt{Kind: api.StEnd}

// P4.2: stages, their parts there and not there.
func TestPrintStages(t *testing.T) {
	run, stop, count := []api.Stmt{command(api.StRun)}, []api.Stmt{command(api.StStop)}, []api.Stmt{command(api.StCount)}
	for _, c := range []struct {
		s    api.Stage
		want string
	}{
		{api.Stage{}, `
stage s {
  green;
}`},
		{api.Stage{Green: []string{"a"}}, `
stage s {
  green a;
}`},
		{api.Stage{Green: []string{"c", "a", "b"}, Enter: []api.Stmt{}, Nexts: []api.Next{{To: "u", When: leaf("x")}, {To: "s", When: over(api.OpNot, leaf("y"))}}}, `
stage s {
  green c, a, b;
  next u when x;
  next s when not y;
}`},
		{api.Stage{Enter: run, During: stop, Leave: count}, `
stage s {
  green;
  enter {
    run t;
  }
  during {
    stop t;
  }
  leave {
    count t;
  }
}`},
		{api.Stage{During: stop, Nexts: []api.Next{{To: "u", When: leaf("x")}}}, `
stage s {
  green;
  during {
    stop t;
  }
  next u when x;
}`},
		{api.Stage{Green: []string{"g"}, Leave: append([]api.Stmt{command(api.StReset), command(api.StClear), {Kind: api.StSet, Name: "v", Expr: over(api.OpNeg, leaf("v"))}}, run...)}, `
stage s {
  green g;
  leave {
    reset t;
    clear t;
    v = -v;
    run t;
  }
}`},
	} {
		checkPrint(t, staged(c.s), within(c.want))
	}
}

// P4.2: ifs and their elses, and where an else and an if are a chain.
func TestPrintIfs(t *testing.T) {
	run, stop := command(api.StRun), command(api.StStop)
	a, b, c, d := ifs("a"), ifs("b"), ifs("c"), ifs("d")
	type list = []api.Stmt
	for _, x := range []struct {
		list list
		want string
	}{
		{list{a, ends}, "if a {\n}"},
		{list{a, elses, ends}, "if a {\n} else {\n}"},
		{list{a, run, ends, b, stop, ends}, "if a {\n  run t;\n}\nif b {\n  stop t;\n}"},
		{list{a, run, elses, stop, ends}, "if a {\n  run t;\n} else {\n  stop t;\n}"},
		{list{a, b, run, ends, ends}, "if a {\n  if b {\n    run t;\n  }\n}"},
		// A chain, and longer ones.
		{list{a, elses, b, ends, ends}, "if a {\n} else if b {\n}"},
		{list{a, run, elses, b, stop, ends, ends}, "if a {\n  run t;\n} else if b {\n  stop t;\n}"},
		{list{a, elses, b, elses, ends, ends}, "if a {\n} else if b {\n} else {\n}"},
		{list{a, elses, b, elses, run, ends, ends, stop}, "if a {\n} else if b {\n} else {\n  run t;\n}\nstop t;"},
		{list{a, elses, b, elses, c, elses, d, run, elses, stop, ends, ends, ends, ends}, "if a {\n} else if b {\n} else if c {\n} else if d {\n  run t;\n} else {\n  stop t;\n}"},
		// More than one whole if in the else: no chain.
		{list{a, elses, b, ends, run, ends}, "if a {\n} else {\n  if b {\n  }\n  run t;\n}"},
		{list{a, elses, run, b, ends, ends}, "if a {\n} else {\n  run t;\n  if b {\n  }\n}"},
		{list{a, elses, b, ends, c, ends, ends}, "if a {\n} else {\n  if b {\n  }\n  if c {\n  }\n}"},
		{list{a, elses, b, elses, c, ends, run, ends, ends}, "if a {\n} else if b {\n} else {\n  if c {\n  }\n  run t;\n}"},
		{list{a, elses, b, elses, c, ends, ends, run, ends}, "if a {\n} else {\n  if b {\n  } else if c {\n  }\n  run t;\n}"},
		// An if that is all of the first part: no chain; chains within a chain's parts.
		{list{a, b, ends, elses, c, ends, ends}, "if a {\n  if b {\n  }\n} else if c {\n}"},
		{list{a, b, elses, c, run, ends, ends, elses, d, stop, ends, ends}, "if a {\n  if b {\n  } else if c {\n    run t;\n  }\n} else if d {\n  stop t;\n}"},
		{list{a, elses, b, c, elses, d, run, ends, ends, ends, ends}, "if a {\n} else if b {\n  if c {\n  } else if d {\n    run t;\n  }\n}"},
	} {
		deep := "stage s {\n  green;\n  enter {\n"
		for _, line := range strings.Split(x.want, "\n") {
			deep += "    " + line + "\n"
		}
		checkPrint(t, staged(api.Stage{Enter: x.list}), within(deep+"  }\n}"))
	}
}

// P4.2: ifs at MaxBlocks, in a chain and within one another.
func TestPrintDeepIfs(t *testing.T) {
	var nest, chain []api.Stmt
	deep, flat := "", "if a {\n"
	for i := range 16 {
		nest = append(nest, ifs("a"))
		deep += strings.Repeat("  ", i) + "if a {\n"
		chain = append(chain, ifs("a"), elses)
		if i < 15 {
			flat += "} else if a {\n"
		}
	}
	for i := range 16 {
		nest, chain = append(nest, ends), append(chain, ends)
		deep += strings.Repeat("  ", 15-i) + "}\n"
	}
	flat += "} else {\n}\n"
	for _, c := range []struct {
		list []api.Stmt
		want string
	}{{nest, deep}, {chain, flat}} {
		want := "plan p {\n\tstage s {\n\t\tgreen;\n\t\tleave {\n"
		for _, line := range strings.SplitAfter(lines(c.want), "\n") {
			if line != "" {
				want += "\t\t\t" + line
			}
		}
		checkPrint(t, staged(api.Stage{Leave: c.list}), want+"\t\t}\n\t}\n}\n")
		tooDeep := append(append([]api.Stmt{ifs("b")}, c.list...), ends)
		checkPrintFails(t, staged(api.Stage{Leave: tooDeep}), api.ErrTree)
	}
}

const smallPlan = `plan small {
	group main vehicle min 7 amber 3 lead 2;
	group side vehicle min 5 amber 3;
	group walk pedestrian min 6 amber 4;
	conflict main side 5 6;
	conflict main walk 4 8;
	detector loop hold 2;
	detector push latch;
	timer rest;
	counter calls;
	var longest = 20;
	cond due = elapsed >= longest or loop and elapsed > 9;
	start flow;
	stage flow {
		green main;
		enter {
			reset rest;
			run rest;
		}
		next cross when push;
		next turn when due;
	}
	stage turn {
		green side;
		next flow when not loop or elapsed >= 12;
	}
	stage cross {
		green side, walk;
		enter {
			count calls;
			clear push;
		}
		next flow when elapsed >= 6;
	}
}
`

// P4.2: whole plans.
func TestPrintPlans(t *testing.T) {
	checkPrint(t, api.Plan{Name: "p"}, "plan p {\n}\n")
	checkPrint(t, api.Plan{Name: strings.Repeat("P", 32), Decls: []api.Decl{}}, "plan "+strings.Repeat("P", 32)+" {\n}\n")
	p, fault := tree.Parse(smallPlan)
	if fault != (api.Fault{}) {
		t.Fatal(fault)
	}
	checkPrint(t, p, smallPlan)
	checkPrint(t, tree.Bare(p), smallPlan)
	// The order is that of the declarations, whatever they are; and one may stand twice.
	timer, start := api.Decl{Kind: api.DeTimer, Name: "t"}, api.Decl{Kind: api.DeStart, Name: "s"}
	checkPrint(t, planWith(start, timer, start), within("start s;\ntimer t;\nstart s;"))
}

// checkText holds what is true of every text of Print.
func checkText(t *testing.T, text string) {
	t.Helper()
	list := strings.Split(text, "\n")
	last := len(list) - 1
	if list[last] != "" || !strings.HasPrefix(list[0], "plan ") || list[last-1] != "}" {
		t.Errorf("the text %q", text)
	}
	depth := 0
	for _, line := range list[:last] {
		bare := strings.TrimLeft(line, "\t")
		if strings.HasPrefix(bare, "}") {
			depth--
		}
		if bare == "" || bare != strings.TrimSpace(bare) || strings.ContainsAny(bare, "\t\r#") || strings.Contains(bare, "  ") || len(line)-len(bare) != depth {
			t.Errorf("the line %q of %q", line, text)
		}
		if strings.HasSuffix(bare, "{") {
			depth++
		}
	}
}

// P4.2, P4.4: plans at random: their texts, and the texts read again.
func TestPrintAtRandom(t *testing.T) {
	r := rand.New(rand.NewSource(42))
	for range 3000 {
		p := anyPlan(r)
		text, errno := pretty.Print(p)
		if want := modelPrint(p); text != want || errno != api.OK {
			t.Fatalf("Print(%v) = %q, %d, want %q", p, text, errno, want)
		}
		checkText(t, text)
		if q, fault := tree.Parse(text); fault != (api.Fault{}) || !tree.Same(p, q) {
			t.Fatalf("%q of %v is read as %v, %v", text, p, q, fault)
		}
	}
}

// P4.2: what is no well-formed plan, alone and behind much that is.
func TestPrintRefuses(t *testing.T) {
	timer := api.Decl{Kind: api.DeTimer, Name: "t"}
	for _, p := range []api.Plan{
		{},
		{Name: "plan"},
		{Name: "1"},
		{Name: "p p"},
		{Name: strings.Repeat("n", 33)},
		{Decls: []api.Decl{timer}},
		planWith(api.Decl{}),
		planWith(timer, api.Decl{Name: "t"}, timer),
		planWith(api.Decl{Kind: 11, Name: "t"}),
		planWith(api.Decl{Kind: -1, Name: "t"}),
		planWith(api.Decl{Kind: api.DeTimer}),
		planWith(api.Decl{Kind: api.DeTimer, Name: "timer"}),
		planWith(api.Decl{Kind: api.DeTimer, Name: "t", With: "u"}),
		planWith(api.Decl{Kind: api.DeTimer, Name: "t", N: [3]int32{1}}),
		planWith(api.Decl{Kind: api.DeTimer, Name: "t", Expr: leaf("a")}),
		planWith(api.Decl{Kind: api.DeTimer, Name: "t", Stage: api.Stage{Green: []string{"a"}}}),
		planWith(api.Decl{Kind: api.DeConst, Name: "x", N: [3]int32{-1 << 31}}),
		planWith(api.Decl{Kind: api.DeVar, Name: "x", N: [3]int32{-1 << 31}}),
		planWith(api.Decl{Kind: api.DeVar, Name: "x", N: [3]int32{1, 1}}),
		planWith(api.Decl{Kind: api.DeGroup, Name: "g"}),
		planWith(api.Decl{Kind: api.DeGroup, Name: "g", Sort: 3}),
		planWith(api.Decl{Kind: api.DeGroup, Name: "g", Sort: 1, N: [3]int32{0, 0, -1}}),
		planWith(api.Decl{Kind: api.DeConflict, Name: "a"}),
		planWith(api.Decl{Kind: api.DeConflict, Name: "a", With: "b", N: [3]int32{-1}}),
		planWith(api.Decl{Kind: api.DeDetector, Name: "d", Sort: 2}),
		planWith(api.Decl{Kind: api.DeDetector, Name: "d", N: [3]int32{0, 0, 1}}),
		planWith(api.Decl{Kind: api.DeCond, Name: "c"}),
		staged(api.Stage{Green: []string{"a", ""}}),
		staged(api.Stage{Nexts: []api.Next{{}}}),
		staged(api.Stage{Nexts: []api.Next{{To: "s"}}}),
		staged(api.Stage{Nexts: []api.Next{{When: leaf("a")}}}),
		staged(api.Stage{Enter: []api.Stmt{{}}}),
		staged(api.Stage{Enter: []api.Stmt{elses}}),
		staged(api.Stage{Enter: []api.Stmt{ends}}),
		staged(api.Stage{During: []api.Stmt{ifs("a")}}),
		staged(api.Stage{During: []api.Stmt{ifs("a"), elses}}),
		staged(api.Stage{During: []api.Stmt{ifs("a"), elses, elses, ends}}),
		staged(api.Stage{Leave: []api.Stmt{ifs("a"), ends, ends}}),
		staged(api.Stage{Leave: []api.Stmt{{Kind: api.StZero, Name: "c"}}}),
		staged(api.Stage{Leave: []api.Stmt{{Kind: api.StRun, Name: "c", Ix: 1}}}),
	} {
		checkPrintFails(t, p, api.ErrTree)
	}
}

// timers are so many declarations whose lines have 41 bytes each.
func timers(count int) []api.Decl {
	list := make([]api.Decl, count)
	for i := range list {
		list[i] = api.Decl{Kind: api.DeTimer, Name: strings.Repeat("n", 32)}
	}
	return list
}

// P4.2: a text of MaxSource bytes is let in, one of more is not, whatever stands in its last lines; what is not well formed is refused ahead of what is too long.
func TestPrintLength(t *testing.T) {
	long := strings.Repeat("n", 20)
	for _, d := range []api.Decl{
		{Kind: api.DeTimer, Name: long},
		{Kind: api.DeCond, Name: long, Expr: over(api.OpAnd, over(api.OpNot, leaf("a")), leaf("b"))},
		{Kind: api.DeStage, Name: long, Stage: api.Stage{Green: []string{"a", "b"}, Enter: []api.Stmt{ifs("a"), elses, ifs("b"), ends, ends}, Nexts: []api.Next{{To: "s", When: leaf("a")}}}},
	} {
		// Lines of 41 bytes, then two longer names, fill the text just up.
		p := planWith(append(timers((api.MaxSource-len(modelPrint(planWith(d))))/41), d)...)
		rest := api.MaxSource - len(modelPrint(p))
		last := &p.Decls[len(p.Decls)-1]
		p.Name += strings.Repeat("p", min(rest, 31))
		last.Name += strings.Repeat("n", rest-min(rest, 31))
		text, errno := pretty.Print(p)
		if len(text) != api.MaxSource || errno != api.OK || text != modelPrint(p) {
			t.Errorf("a text of MaxSource bytes: %d bytes, %d", len(text), errno)
		}
		if q, fault := tree.Parse(text); fault != (api.Fault{}) || !tree.Same(p, q) {
			t.Errorf("a text of MaxSource bytes is not read as its plan: %v", fault)
		}
		last.Name += "n"
		checkPrintFails(t, p, api.ErrLong)
		p.Decls = append(p.Decls, api.Decl{})
		checkPrintFails(t, p, api.ErrTree)
	}
	checkPrintFails(t, planWith(timers(100000)...), api.ErrLong)
	checkPrintFails(t, planWith(append(timers(100000), api.Decl{})...), api.ErrTree)
	names := make([]string, 100000)
	next, run := make([]api.Next, len(names)), make([]api.Stmt, len(names))
	for i := range names {
		names[i], next[i], run[i] = "g", api.Next{To: "s", When: leaf("a")}, command(api.StRun)
	}
	checkPrintFails(t, staged(api.Stage{Green: names}), api.ErrLong)
	checkPrintFails(t, staged(api.Stage{Nexts: next}), api.ErrLong)
	checkPrintFails(t, staged(api.Stage{During: run}), api.ErrLong)
}

// scattering lays any places into a value.
func scattering(r *rand.Rand, v reflect.Value) {
	switch {
	case v.Type() == reflect.TypeFor[api.Pos]():
		v.Set(reflect.ValueOf(api.Pos{Line: r.Int() - r.Int(), Col: r.Intn(5)}))
	case v.Kind() == reflect.Struct:
		for i := range v.NumField() {
			scattering(r, v.Field(i))
		}
	case v.Kind() == reflect.Slice:
		for i := range v.Len() {
			scattering(r, v.Index(i))
		}
	}
}

// clone is a deep copy, with the places.
func clone(v reflect.Value) reflect.Value {
	out := reflect.New(v.Type()).Elem()
	out.Set(v)
	switch {
	case v.Kind() == reflect.Struct:
		for i := range v.NumField() {
			out.Field(i).Set(clone(v.Field(i)))
		}
	case v.Kind() == reflect.Slice && !v.IsNil():
		out.Set(reflect.MakeSlice(v.Type(), v.Len(), v.Len()))
		for i := range v.Len() {
			out.Index(i).Set(clone(v.Index(i)))
		}
	}
	return out
}

// P4.2: places don't matter; a plan is left as it was; the same call answers the same.
func TestPrintLeavesItsArgument(t *testing.T) {
	r := rand.New(rand.NewSource(24))
	for range 300 {
		p := anyPlan(r)
		want := modelPrint(p)
		scattering(r, reflect.ValueOf(&p).Elem())
		before := clone(reflect.ValueOf(p)).Interface()
		for range 2 {
			checkPrint(t, p, want)
		}
		if !reflect.DeepEqual(p, before) {
			t.Fatalf("%v has become %v", before, p)
		}
	}
}

// P4.2: plans that have been spoilt somewhere are refused just where tree.Formed refuses them, and no call panics.
func TestPrintOfAnything(t *testing.T) {
	r := rand.New(rand.NewSource(43))
	refused := 0
	for range 5000 {
		p := anyPlan(r)
		spoil(r, reflect.ValueOf(&p).Elem())
		text, errno := pretty.Print(p)
		if !tree.Formed(p) {
			refused++
			if text != "" || errno != api.ErrTree {
				t.Fatalf("Print(%v) = %q, %d, want ErrTree", p, text, errno)
			}
			continue
		}
		if want := modelPrint(p); text != want || errno != api.OK {
			t.Fatalf("Print(%v) = %q, %d, want %q", p, text, errno, want)
		}
	}
	if refused < 1000 || refused > 4500 {
		t.Errorf("%d of 5000 are refused", refused)
	}
}

// spoil changes here and there a field within a value.
func spoil(r *rand.Rand, v reflect.Value) {
	switch v.Kind() {
	case reflect.Struct, reflect.Array, reflect.Slice:
		if v.Kind() == reflect.Slice && v.Len() > 0 && r.Intn(60) == 0 {
			v.Set(v.Slice(0, r.Intn(v.Len())))
		}
		size := 0
		if v.Kind() == reflect.Struct {
			size = v.NumField()
		} else {
			size = v.Len()
		}
		for i := range size {
			if v.Kind() == reflect.Struct {
				spoil(r, v.Field(i))
			} else {
				spoil(r, v.Index(i))
			}
		}
	case reflect.String:
		if r.Intn(80) == 0 {
			v.SetString(pick(r, "", "a", "if", "é"))
		}
	default:
		if r.Intn(200) == 0 {
			v.SetInt(int64(r.Intn(14) - 2))
		}
	}
}
