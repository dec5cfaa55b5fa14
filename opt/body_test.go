package opt_test

import (
	"math/rand"
	"testing"

	"junction/api"
	"junction/opt"
)

// bodyCase is statements, what they become, and what is known behind them, as pairs of variables and words.
type bodyCase struct {
	in, out string
	known   []int32
}

func checkBodies(t *testing.T, k api.Known, list []bodyCase) {
	t.Helper()
	for _, c := range list {
		want := knowing(c.known...)
		want.Steady, want.Green = k.Steady, k.Green
		got, behind, e := opt.Body(bodyOf(t, c.in), k)
		if e != api.OK || !same(got, smallBody(t, c.out)) {
			t.Errorf("Body(%s): %s, %d, want %s", c.in, toldBody(got), e, c.out)
		}
		if behind != want {
			t.Errorf("behind Body(%s): %s, want %s", c.in, toldKnown(behind), toldKnown(want))
		}
	}
}

// P9.3: the chapter's examples.
func TestBodyExamples(t *testing.T) {
	checkBodies(t, api.Known{}, []bodyCase{
		{"x = 3; y = x + 1; if y > 3 { run t; }", "x = 3; y = 4; run t;", []int32{0, 3, 1, 4}},
		{"x = x; if d { }", "", nil},
		{"if x == 3 { y = x; } else { y = 3; }", "y = 3;", []int32{1, 3}},
		{"if x < y { } else { count c; }", "if x >= y { count c; }", nil},
		{"if d { } else { count c; }", "if d { } else { count c; }", nil},
		{"if x == 4 { x = 4; count c; }", "if x == 4 { count c; }", nil},
	})
	list, _, _ := opt.Body(bodyOf(t, "if d { } else { count c; }"), api.Known{})
	want := []api.Stmt{{Kind: api.StIf, Expr: leaf(api.OpDet, 0)}, {Kind: api.StElse}, {Kind: api.StCount}, {Kind: api.StEnd}}
	if !same(list, want) {
		t.Errorf("%s", toldBody(list))
	}
}

// P9.3: assignments, and the statements that stay.
func TestBodyStatements(t *testing.T) {
	checkBodies(t, api.Known{}, []bodyCase{
		{"", "", nil},
		{"reset t; reset c; run u; stop t; count b; clear e; clear e; reset t;", "reset t; reset c; run u; stop t; count b; clear e; clear e; reset t;", nil},
		{"x = 1; x = 1;", "x = 1;", []int32{0, 1}}, {"x = 1; x = 2; x = 1;", "x = 1; x = 2; x = 1;", []int32{0, 1}}, {"x = 1; x = t; x = 1;", "x = 1; x = t; x = 1;", []int32{0, 1}},
		{"x = x + 0; x = - -x; x = min(x, x);", "", nil}, {"x = y; y = x;", "x = y; y = x;", nil}, {"x = 0; x = 0;", "x = 0;", []int32{0, 0}},
		{"x = 1; x = x; y = x + 1; z = y + x;", "x = 1; y = 2; z = 3;", []int32{0, 1, 1, 2, 2, 3}}, {"x = 1; x = x + 1; x = x * x;", "x = 1; x = 2; x = 4;", []int32{0, 4}},
		{"x = 1; x = t; y = x;", "x = 1; x = t; y = x;", nil}, {"x = 2147483647 + 1;", "x = least;", []int32{0, least}}, {"x = 3 - y - 5;", "x = 3 - y + -5;", nil}, {"x = t * 0; y = x;", "x = 0; y = 0;", []int32{0, 0, 1, 0}},
	})
	checkBodies(t, steady(4, 0, 1), []bodyCase{
		{"", "", []int32{0, 1}}, {"x = 1;", "", []int32{0, 1}}, {"x = x;", "", []int32{0, 1}}, {"x = 2;", "x = 2;", []int32{0, 2}}, {"x = y;", "x = y;", nil}, {"y = x;", "y = 1;", []int32{0, 1, 1, 1}}, {"x = t; y = x;", "x = t; y = x;", nil},
		{"if green(g2) { run t; } else { stop t; }", "run t;", []int32{0, 1}}, {"if red(g2) { run t; } else { stop t; }", "stop t;", []int32{0, 1}}, {"if green(g0) { run t; }", "", []int32{0, 1}},
	})
	// What counts for nothing is 0 behind; Steady and Green stay as they were.
	k := api.Known{Green: 1<<63 + 5, Has: 2}
	for v := range k.Vals {
		k.Vals[v] = int32(v) + 7
	}
	checkBodies(t, k, []bodyCase{{"", "", []int32{1, 8}}, {"if green(g0) { x = y; }", "if green(g0) { x = 8; }", []int32{1, 8}}, {"y = x;", "y = x;", nil}})
	// The last variable.
	last := []api.Stmt{{Kind: api.StSet, Ix: 63, Expr: leaf(api.OpInt, 5)}, {Kind: api.StSet, Ix: 63, Expr: leaf(api.OpInt, 5)}}
	if got, behind, e := opt.Body(last, api.Known{}); e != api.OK || !same(got, last[:1]) || behind != knowing(63, 5) {
		t.Errorf("variable 63: %s, %s, %d", toldBody(got), toldKnown(behind), e)
	}
}

// P9.3: ifs whose truth is known.
func TestBodyKnownIfs(t *testing.T) {
	checkBodies(t, api.Known{}, []bodyCase{
		{"if true { run t; } else { stop t; }", "run t;", nil}, {"if false { run t; } else { stop t; }", "stop t;", nil}, {"if true { run t; }", "run t;", nil}, {"if false { run t; }", "", nil}, {"if false { run t; } stop u;", "stop u;", nil},
		{"if t >= 0 { x = 1; } y = x;", "x = 1; y = 1;", []int32{0, 1, 1, 1}}, {"if t < 0 { x = 1; } y = x;", "y = x;", nil}, {"if t < 0 { x = 1; } else { x = 2; } y = x;", "x = 2; y = 2;", []int32{0, 2, 1, 2}},
		{"if true { if d { run t; } else { stop t; } }", "if d { run t; } else { stop t; }", nil}, {"if false { if d { run t; } else { stop t; } } else if d { count c; }", "if d { count c; }", nil}, {"if true { if false { run t; } else { if true { count c; } } count b; }", "count c; count b;", nil},
		{"x = 2; if x == 2 { y = 1; } else { y = 2; }", "x = 2; y = 1;", []int32{0, 2, 1, 1}}, {"if d { if true { x = 1; } } else { x = 1; }", "x = 1;", []int32{0, 1}},
	})
}

// P9.3: what is known behind an if, and within it.
func TestBodyKnowledge(t *testing.T) {
	checkBodies(t, api.Known{}, []bodyCase{
		{"if d { x = 1; } else { x = 1; y = 2; } z = x;", "if d { x = 1; } else { x = 1; y = 2; } z = 1;", []int32{0, 1, 2, 1}},
		{"if d { x = 1; } else { x = 2; } z = x;", "if d { x = 1; } else { x = 2; } z = x;", nil},
		{"x = 5; if d { x = 6; } y = x;", "x = 5; if d { x = 6; } y = x;", nil},
		{"x = 5; if d { y = 6; } y = x;", "x = 5; if d { y = 6; } y = 5;", []int32{0, 5, 1, 5}},
		{"x = 0; if d { x = t; } y = x;", "x = 0; if d { x = t; } y = x;", nil},
		{"if d { x = 0; } y = x;", "if d { x = 0; } y = x;", nil},
		{"if d { } else { x = 0; } y = x;", "if d { } else { x = 0; } y = x;", nil},
		{"if x == 3 { y = x; } else { y = x; }", "if x == 3 { y = 3; } else { y = x; }", nil},
		{"if x != 3 { y = x; } else { y = x; }", "if x != 3 { y = x; } else { y = 3; }", nil},
		{"if 3 == x { y = x; }", "if x == 3 { y = 3; }", nil}, {"if not (x != 3) { y = x; }", "if x == 3 { y = 3; }", nil}, {"if x - 1 == 2 { y = x; }", "if x == 3 { y = 3; }", nil}, {"if (x == 3) == true { y = x; }", "if x == 3 { y = 3; }", nil},
		{"if x == y { y = x; }", "if x == y { y = x; }", nil}, {"if x == 3 and d { y = x; }", "if x == 3 and d { y = x; }", nil}, {"if x >= 3 { y = x; }", "if x >= 3 { y = x; }", nil}, {"if x + y == 3 { y = x; }", "if x + y == 3 { y = x; }", nil},
		{"if x == 3 { x = 3; }", "", nil}, {"if x == 3 { } else { x = 3; } y = x;", "if x != 3 { x = 3; } y = 3;", []int32{0, 3, 1, 3}}, {"if x != 3 { x = 3; } y = x;", "if x != 3 { x = 3; } y = 3;", []int32{0, 3, 1, 3}}, {"if x == 3 { count c; } y = x;", "if x == 3 { count c; } y = x;", nil},
		{"if x == 3 { if x == 4 { count c; } else { count b; } }", "if x == 3 { count b; }", nil}, {"if x == 3 { if y == 4 { z = x + y; } }", "if x == 3 { if y == 4 { z = 7; } }", nil},
		{"if x == 3 { y = 3; } else { y = x; } z = y;", "if x == 3 { y = 3; } else { y = x; } z = y;", nil},
	})
	checkBodies(t, knowing(0, 3), []bodyCase{{"if x == 3 { count c; }", "count c;", []int32{0, 3}}, {"if y == x { z = y; }", "if y == 3 { z = 3; }", []int32{0, 3}}, {"if d { x = 3; y = 1; } else { y = 1; }", "y = 1;", []int32{0, 3, 1, 1}}})
}

// P9.3: the four shapes of an if.
func TestBodyShapes(t *testing.T) {
	checkBodies(t, api.Known{}, []bodyCase{
		{"if d { } else { }", "", nil}, {"if d { x = x; } else { if e { } }", "", nil}, {"if d { run t; } else { run t; }", "run t;", nil}, {"if d { x = 1 + y; } else { x = y + 1; }", "x = y + 1;", nil}, {"if d { x = y; } else { x = z; }", "if d { x = y; } else { x = z; }", nil}, {"if d { run t; } else { run u; }", "if d { run t; } else { run u; }", nil}, {"if d { run t; } else { stop t; }", "if d { run t; } else { stop t; }", nil}, {"if d { run t; } else { run t; run t; }", "if d { run t; } else { run t; run t; }", nil},
		{"if d { if e { run t; } else { stop t; } } else { if e { run t; } else { stop t; } }", "if e { run t; } else { stop t; }", nil},
		{"if not d { } else { stop t; }", "if d { stop t; }", nil}, {"if not (d and e) { } else { stop t; }", "if d and e { stop t; }", nil}, {"if x == y { } else { x = y; }", "if x != y { x = y; }", nil}, {"if x <= y { } else { stop t; }", "if x > y { stop t; }", nil}, {"if d == false { } else { run t; }", "if d { run t; }", nil}, {"if d == e { } else { run t; }", "if d != e { run t; }", nil}, {"if (d and e) == false { } else { run t; }", "if d and e { run t; }", nil},
		{"if d and e { } else { run t; }", "if d and e { } else { run t; }", nil}, {"if not d { x = x; } else { run t; }", "if d { run t; }", nil}, {"if not d { run t; } else { }", "if not d { run t; }", nil}, {"if d { run t; } else { y = y; }", "if d { run t; }", nil}, {"if x < y { run t; } else { stop t; }", "if x < y { run t; } else { stop t; }", nil}, {"if not d { run t; } else { stop t; }", "if not d { run t; } else { stop t; }", nil},
		{"if green(g2) { run t; }", "if green(g2) { run t; }", nil}, {"if red(g1) { } else { run t; }", "if red(g1) { } else { run t; }", nil},
	})
}

// wrongBodies are lists that do not fit.
func wrongBodies() map[string][]api.Stmt {
	d := leaf(api.OpDet, 0)
	open, other, end := api.Stmt{Kind: api.StIf, Expr: d}, api.Stmt{Kind: api.StElse}, api.Stmt{Kind: api.StEnd}
	list := map[string][]api.Stmt{
		"an end": {end}, "an else": {other}, "an open if": {open}, "two elses": {open, other, other, end}, "a second end": {open, end, end}, "an else behind": {open, end, other},
		"no kind": {{}}, "kind 11": {{Kind: 11}}, "kind -1": {{Kind: -1}},
		"a name": {{Kind: api.StRun, Name: "t"}}, "a place": {{Kind: api.StRun, At: api.Pos{Line: 1}}},
		"an expression too many": {{Kind: api.StRun, Expr: d}}, "no expression": {{Kind: api.StSet}}, "an if of nothing": {{Kind: api.StIf}, end}, "an if of a number": {{Kind: api.StIf, Expr: leaf(api.OpVar, 0)}, end},
		"a set of a truth": {{Kind: api.StSet, Expr: d}}, "an if with a number": {{Kind: api.StIf, Ix: 1, Expr: d}, end}, "an end with a number": {open, {Kind: api.StEnd, Ix: 1}}, "an else with an expression": {open, {Kind: api.StElse, Expr: d}, end},
		"17 ifs": ifs(17), "too many": make([]api.Stmt, 4097), "too many nodes": nodesIn(16385),
	}
	for i := range list["too many"] {
		list["too many"][i].Kind = api.StRun
	}
	for kind := api.StSet; kind <= api.StClear; kind++ {
		list["64 of "+string(rune('0'+kind))], list["-1 of "+string(rune('0'+kind))] = numbered(kind, 64), numbered(kind, -1)
	}
	list["64 of zero"], list["-1 of zero"] = numbered(api.StZero, 64), numbered(api.StZero, -1)
	return list
}

func numbered(kind, ix int) []api.Stmt {
	s := api.Stmt{Kind: kind, Ix: ix}
	if kind == api.StSet {
		s.Expr = leaf(api.OpElapsed, 0)
	}
	return []api.Stmt{s}
}

// ifs is that many ifs in one another around a statement.
func ifs(deep int) []api.Stmt {
	list := []api.Stmt{{Kind: api.StRun}}
	for i := range deep {
		list = append([]api.Stmt{{Kind: api.StIf, Expr: leaf(api.OpDet, int32(i))}}, append(list, api.Stmt{Kind: api.StEnd})...)
	}
	return list
}

// nodesIn is assignments whose expressions have that many nodes in all.
func nodesIn(nodes int) []api.Stmt {
	var list []api.Stmt
	for ; nodes > 0; nodes -= 256 {
		list = append(list, api.Stmt{Kind: api.StSet, Ix: len(list) % 64, Expr: long(min(nodes, 256))})
	}
	return list
}

// P9.3: what does not fit is refused, and nothing is told beside.
func TestWrongBodies(t *testing.T) {
	for name, list := range wrongBodies() {
		for _, k := range []api.Known{{}, steady(4, 0, 7)} {
			if got, behind, e := opt.Body(list, k); len(got) != 0 || behind != (api.Known{}) || e != api.ErrTyped {
				t.Errorf("Body of %s: %d statements, %s, %d", name, len(got), toldKnown(behind), e)
			}
		}
	}
	for name, e := range wrongExprs() {
		for _, s := range []api.Stmt{{Kind: api.StSet, Expr: e}, {Kind: api.StIf, Expr: e}} {
			list := []api.Stmt{s}
			if s.Kind == api.StIf {
				list = append(list, api.Stmt{Kind: api.StEnd})
			}
			if got, behind, e := opt.Body(list, api.Known{}); len(got) != 0 || behind != (api.Known{}) || e != api.ErrTyped {
				t.Errorf("Body with %s: %d statements, %s, %d", name, len(got), toldKnown(behind), e)
			}
		}
	}
}

// P9.3: what is at its limit is let in.
func TestBodiesAtTheirLimits(t *testing.T) {
	many := make([]api.Stmt, 4096)
	for i := range many {
		many[i] = api.Stmt{Kind: api.StZero, Ix: i % 64}
	}
	for name, list := range map[string][]api.Stmt{"16 ifs": ifs(16), "many": many, "many nodes": nodesIn(16384)} {
		got, behind, e := opt.Body(list, api.Known{})
		if e != api.OK || !same(got, list) || behind != (api.Known{}) {
			t.Errorf("%s: %d statements of %d, %s, %d", name, len(got), len(list), toldKnown(behind), e)
		}
	}
	for kind := api.StSet; kind <= api.StClear; kind++ {
		if _, _, e := opt.Body(numbered(kind, 63), api.Known{}); e != api.OK {
			t.Errorf("63 of %d: %d", kind, e)
		}
	}
}

// bodyRules are what the second way counts beside folding.
var bodyRules = []string{"set itself", "set again", "if known", "if same", "if not", "if opposite", "if alone", "if else"}

// P9.3: at random against the second way.
func TestBodyAtRandom(t *testing.T) {
	t.Parallel()
	r := rand.New(rand.NewSource(93))
	used := map[string]int{}
	for range 12000 {
		m := anyMaker(r)
		list, k := m.list(4), m.known()
		want, known := modelBody(list, k, used)
		if got, behind, e := opt.Body(list, k); e != api.OK || !same(got, want) || behind != known {
			t.Fatalf("Body(%s) with %s: %s, %s, %d, want %s, %s", toldBody(list), toldKnown(k), toldBody(got), toldKnown(behind), e, toldBody(want), toldKnown(known))
		}
	}
	allUsed(t, used, 100, bodyRules...)
}
