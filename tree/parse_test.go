package tree_test

import (
	"fmt"
	"math/rand"
	"strings"
	"testing"

	"junction/api"
	"junction/lex"
	"junction/tree"
)

// shown is a value as text; a nil list and an empty one are shown alike.
func shown(v any) string { return fmt.Sprintf("%+v", v) }

func leaf(op int, line, col int) api.Node { return api.Node{Op: op, At: at(line, col)} }

func name(text string, line, col int) api.Node {
	return api.Node{Op: api.OpName, Name: text, At: at(line, col)}
}

func number(n int32, line, col int) api.Node {
	return api.Node{Op: api.OpInt, Val: n, At: at(line, col)}
}

// P3.3: the node of each token, the grouping, the places.
func TestParseExpr(t *testing.T) {
	for src, want := range map[string][]api.Node{
		"a - b - 2":                 {name("a", 1, 1), name("b", 1, 5), leaf(api.OpSub, 1, 3), number(2, 1, 9), leaf(api.OpSub, 1, 7)},
		"a - (b - 2)":               {name("a", 1, 1), name("b", 1, 6), number(2, 1, 10), leaf(api.OpSub, 1, 8), leaf(api.OpSub, 1, 3)},
		"not a == -b":               {name("a", 1, 5), name("b", 1, 11), leaf(api.OpNeg, 1, 10), leaf(api.OpEq, 1, 7), leaf(api.OpNot, 1, 1)},
		"(not a) == b":              {name("a", 1, 6), leaf(api.OpNot, 1, 2), name("b", 1, 12), leaf(api.OpEq, 1, 9)},
		"min(1, green(g)) * abs(x)": {number(1, 1, 5), {Op: api.OpGreen, Name: "g", At: at(1, 8)}, leaf(api.OpMin, 1, 1), name("x", 1, 24), leaf(api.OpAbs, 1, 20), leaf(api.OpMul, 1, 18)},
		"((a))":                     {name("a", 1, 3)},
		"\n\ta":                     {name("a", 2, 2)},
		"0x7fffffff":                {number(2147483647, 1, 1)},
		"1h30m":                     {number(5400, 1, 1)},
		"0":                         {number(0, 1, 1)},
		"true":                      {{Op: api.OpBool, Val: 1, At: at(1, 1)}},
		"false":                     {leaf(api.OpBool, 1, 1)},
		"elapsed":                   {leaf(api.OpElapsed, 1, 1)},
		"green ( g )":               {{Op: api.OpGreen, Name: "g", At: at(1, 1)}},
		"red(Min)":                  {{Op: api.OpRed, Name: "Min", At: at(1, 1)}},
		"max(a,b)":                  {name("a", 1, 5), name("b", 1, 7), leaf(api.OpMax, 1, 1)},
		"-a*b":                      {name("a", 1, 2), leaf(api.OpNeg, 1, 1), name("b", 1, 4), leaf(api.OpMul, 1, 3)},
		"-(a*b)":                    {name("a", 1, 3), name("b", 1, 5), leaf(api.OpMul, 1, 4), leaf(api.OpNeg, 1, 1)},
		"a*-b":                      {name("a", 1, 1), name("b", 1, 4), leaf(api.OpNeg, 1, 3), leaf(api.OpMul, 1, 2)},
		"a--b":                      {name("a", 1, 1), name("b", 1, 4), leaf(api.OpNeg, 1, 3), leaf(api.OpSub, 1, 2)},
		"--a":                       {name("a", 1, 3), leaf(api.OpNeg, 1, 2), leaf(api.OpNeg, 1, 1)},
		"not not a":                 {name("a", 1, 9), leaf(api.OpNot, 1, 5), leaf(api.OpNot, 1, 1)},
		"not a and b":               {name("a", 1, 5), leaf(api.OpNot, 1, 1), name("b", 1, 11), leaf(api.OpAnd, 1, 7)},
		"a or b and c or d":         {name("a", 1, 1), name("b", 1, 6), name("c", 1, 12), leaf(api.OpAnd, 1, 8), leaf(api.OpOr, 1, 3), name("d", 1, 17), leaf(api.OpOr, 1, 14)},
		"a+b*c%d/e-f":               {name("a", 1, 1), name("b", 1, 3), name("c", 1, 5), leaf(api.OpMul, 1, 4), name("d", 1, 7), leaf(api.OpRem, 1, 6), name("e", 1, 9), leaf(api.OpDiv, 1, 8), leaf(api.OpAdd, 1, 2), name("f", 1, 11), leaf(api.OpSub, 1, 10)},
		"a+b==c and d<e":            {name("a", 1, 1), name("b", 1, 3), leaf(api.OpAdd, 1, 2), name("c", 1, 6), leaf(api.OpEq, 1, 4), name("d", 1, 12), name("e", 1, 14), leaf(api.OpLt, 1, 13), leaf(api.OpAnd, 1, 8)},
		"a!=b":                      {name("a", 1, 1), name("b", 1, 4), leaf(api.OpNe, 1, 2)},
		"a<=b":                      {name("a", 1, 1), name("b", 1, 4), leaf(api.OpLe, 1, 2)},
		"a>b":                       {name("a", 1, 1), name("b", 1, 3), leaf(api.OpGt, 1, 2)},
		"a>=b":                      {name("a", 1, 1), name("b", 1, 4), leaf(api.OpGe, 1, 2)},
		strings.Repeat("(", 64) + "a" + strings.Repeat(")", 64): {name("a", 1, 65)},
	} {
		if e, f := tree.ParseExpr(src); f != (api.Fault{}) || shown(e) != shown(want) {
			t.Errorf("ParseExpr(%q) = %+v, %v, want %+v", src, e, f, want)
		}
	}
}

// P3.3, P3.11: expressions at random, of all sizes up to the greatest.
func TestParseExprAtRandom(t *testing.T) {
	r := rand.New(rand.NewSource(33))
	for i := range 4000 {
		nodes := 1 + r.Intn(12)
		if i%50 == 0 {
			nodes = 200 + r.Intn(57)
		}
		w := newWriter(r)
		want := w.expr(someExpr(r, nodes))
		src := w.text.String()
		if modelNest(src) > api.MaxDepth {
			continue
		}
		e, f := tree.ParseExpr(src)
		if f != (api.Fault{}) || shown(e) != shown(want) {
			t.Fatalf("ParseExpr(%q) = %+v, %v, want %+v", src, e, f, want)
		}
		if !tree.FormedExpr(e) {
			t.Fatalf("what ParseExpr(%q) answers is not well formed", src)
		}
	}
}

// all is a plan with every form of every declaration.
const all = `plan p {
 group g pedestrian min 1m amber 3;
 group h vehicle min 5 amber 0 lead 2;
 conflict g h 4 0x5;
 const k = - 7;
 const l = 2147483647; const m = -2147483647;
 var x = 0;
 detector d latch delay 1 hold 2;
 detector e delay 3; detector f hold 4; detector i; detector j latch;
 timer t;
 counter c;
 cond q = x > k;
 start s;
 stage s {
  green g, h;
  enter { x = 1; if q { run t; } else if d { stop t; } else { count c; } }
  during { if a { if b { } } }
  leave { reset t; clear d; }
  next u when q;
  next s when not d;
 }
 stage u { green; }
}`

// P3.2: every form of every declaration, with its places.
func TestParse(t *testing.T) {
	want := api.Plan{Name: "p", Decls: []api.Decl{
		{Kind: api.DeGroup, At: at(2, 2), Name: "g", Sort: api.Pedestrian, N: [3]int32{60, 3, 0}},
		{Kind: api.DeGroup, At: at(3, 2), Name: "h", Sort: api.Vehicle, N: [3]int32{5, 0, 2}},
		{Kind: api.DeConflict, At: at(4, 2), Name: "g", With: "h", N: [3]int32{4, 5, 0}},
		{Kind: api.DeConst, At: at(5, 2), Name: "k", N: [3]int32{-7}},
		{Kind: api.DeConst, At: at(6, 2), Name: "l", N: [3]int32{2147483647}},
		{Kind: api.DeConst, At: at(6, 24), Name: "m", N: [3]int32{-2147483647}},
		{Kind: api.DeVar, At: at(7, 2), Name: "x"},
		{Kind: api.DeDetector, At: at(8, 2), Name: "d", Sort: 1, N: [3]int32{1, 2}},
		{Kind: api.DeDetector, At: at(9, 2), Name: "e", N: [3]int32{3, 0}},
		{Kind: api.DeDetector, At: at(9, 22), Name: "f", N: [3]int32{0, 4}},
		{Kind: api.DeDetector, At: at(9, 41), Name: "i"},
		{Kind: api.DeDetector, At: at(9, 53), Name: "j", Sort: 1},
		{Kind: api.DeTimer, At: at(10, 2), Name: "t"},
		{Kind: api.DeCounter, At: at(11, 2), Name: "c"},
		{Kind: api.DeCond, At: at(12, 2), Name: "q", Expr: []api.Node{name("x", 12, 11), name("k", 12, 15), leaf(api.OpGt, 12, 13)}},
		{Kind: api.DeStart, At: at(13, 2), Name: "s"},
		{Kind: api.DeStage, At: at(14, 2), Name: "s", Stage: api.Stage{
			Green: []string{"g", "h"},
			Enter: []api.Stmt{
				{Kind: api.StSet, Name: "x", Expr: []api.Node{number(1, 16, 15)}, At: at(16, 11)},
				{Kind: api.StIf, Expr: []api.Node{name("q", 16, 21)}, At: at(16, 18)},
				{Kind: api.StRun, Name: "t", At: at(16, 25)},
				{Kind: api.StElse, At: at(16, 34)},
				{Kind: api.StIf, Expr: []api.Node{name("d", 16, 42)}, At: at(16, 39)},
				{Kind: api.StStop, Name: "t", At: at(16, 46)},
				{Kind: api.StElse, At: at(16, 56)},
				{Kind: api.StCount, Name: "c", At: at(16, 63)},
				{Kind: api.StEnd, At: at(16, 72)},
				{Kind: api.StEnd, At: at(16, 72)},
			},
			During: []api.Stmt{
				{Kind: api.StIf, Expr: []api.Node{name("a", 17, 15)}, At: at(17, 12)},
				{Kind: api.StIf, Expr: []api.Node{name("b", 17, 22)}, At: at(17, 19)},
				{Kind: api.StEnd, At: at(17, 26)},
				{Kind: api.StEnd, At: at(17, 28)},
			},
			Leave: []api.Stmt{
				{Kind: api.StReset, Name: "t", At: at(18, 11)},
				{Kind: api.StClear, Name: "d", At: at(18, 20)},
			},
			Nexts: []api.Next{
				{To: "u", When: []api.Node{name("q", 19, 15)}, At: at(19, 3)},
				{To: "s", When: []api.Node{name("d", 20, 19), leaf(api.OpNot, 20, 15)}, At: at(20, 3)},
			},
		}},
		{Kind: api.DeStage, At: at(22, 2), Name: "u"},
	}}
	p, f := tree.Parse(all)
	if f != (api.Fault{}) || p.Name != want.Name || len(p.Decls) != len(want.Decls) {
		t.Fatalf("%q, %d declarations, %v", p.Name, len(p.Decls), f)
	}
	for i, d := range p.Decls {
		if shown(d) != shown(want.Decls[i]) {
			t.Errorf("declaration %d is\n%+v, want\n%+v", i, d, want.Decls[i])
		}
	}
}

// shownNames are the names in an expression.
func shownNames(e []api.Node) string {
	names := ""
	for _, n := range e {
		names += n.Name
	}
	return names
}

// P3.2: the chapter's examples of plans.
func TestParseExamples(t *testing.T) {
	p, f := tree.Parse("plan p { }")
	if f != (api.Fault{}) || p.Name != "p" || len(p.Decls) != 0 {
		t.Errorf("%+v, %v", p, f)
	}
	p, f = tree.Parse("plan p { var x = -3; }")
	want := api.Plan{Name: "p", Decls: []api.Decl{{Kind: api.DeVar, At: at(1, 10), Name: "x", N: [3]int32{-3}}}}
	if f != (api.Fault{}) || shown(p) != shown(want) {
		t.Errorf("%+v, %v", p, f)
	}
	p, f = tree.Parse("plan p { stage s { green a, b; enter { if x { run t; } else if y { } } next s when 1; } start s; }")
	if f != (api.Fault{}) || len(p.Decls) != 2 {
		t.Fatalf("%+v, %v", p, f)
	}
	kinds := ""
	for _, s := range p.Decls[0].Stage.Enter {
		kinds += fmt.Sprintf("%d %s;", s.Kind, s.Name+shownNames(s.Expr))
	}
	if kinds != "7 x;3 t;8 ;7 y;9 ;9 ;" {
		t.Errorf("the statements are %s", kinds)
	}
}

// P3.2: else if is what else { if } is, but for places.
func TestElseIf(t *testing.T) {
	for short, long := range map[string]string{
		"if a { } else if b { }":                                      "if a { } else { if b { } }",
		"if a { x = 1; } else if b { run t; } else { stop t; }":       "if a { x = 1; } else { if b { run t; } else { stop t; } }",
		"if a { } else if b { } else if c { } else if d { } run t;":   "if a { } else { if b { } else { if c { } else { if d { } } } } run t;",
		"if a { if b { } else if c { } } else if d { } if e { } x=1;": "if a { if b { } else { if c { } } } else { if d { } } if e { } x=1;",
	} {
		p, f := tree.Parse(block(short))
		q, g := tree.Parse(block(long))
		if f != (api.Fault{}) || g != (api.Fault{}) || !tree.Same(p, q) {
			t.Errorf("%q, %q: %v, %v\n%+v\n%+v", short, long, f, g, p, q)
		}
		for _, s := range p.Decls[0].Stage.Enter {
			if s.Kind == api.StEnd && s.At.Col == 0 {
				t.Errorf("%q: an end without a place", short)
			}
		}
	}
}

// P3.2, P3.11: plans at random, with the place of everything in them.
func TestParseAtRandom(t *testing.T) {
	r := rand.New(rand.NewSource(32))
	for range 1500 {
		w := newWriter(r)
		want := w.plan(somePlan(r, 6))
		src := w.text.String()
		if f := modelFault("plan", src); f != (api.Fault{}) {
			t.Fatalf("%q is no plan: %v", src, f)
		}
		p, f := tree.Parse(src)
		if f != (api.Fault{}) || shown(p) != shown(want) {
			t.Fatalf("Parse(%q) =\n%+v, %v, want\n%+v", src, p, f, want)
		}
		if !tree.Formed(p) {
			t.Fatalf("what Parse(%q) answers is not well formed", src)
		}
	}
}

// P3.11: what stands at the limits of the grammar is well formed too.
func TestWhatIsReadIsFormed(t *testing.T) {
	r := strings.Repeat
	sum := "a" + r("+a", 127)
	for _, src := range []string{r("(", 64) + "a" + r(")", 64), r("-", 64) + "a", r("not ", 64) + "a", r("abs(", 64) + "a" + r(")", 64), r("min(a,", 64) + "a" + r(")", 64), r("-(", 32) + "a+b" + r(")", 32), r("a-(", 64) + "a" + r(")", 64), r("(not ", 32) + "a" + r(")+a", 32), "-" + sum, sum, "0", "2147483647", r("N", 32)} {
		e, f := tree.ParseExpr(src)
		if f != (api.Fault{}) || !tree.FormedExpr(e) {
			t.Errorf("%q: %v, %v", src, f, tree.FormedExpr(e))
		}
		for _, stmts := range []string{"x = " + src + ";", "if " + src + " { }", r("if "+src+" { ", 16) + r("}", 16)} {
			p, f := tree.Parse(block(stmts))
			if f != (api.Fault{}) || !tree.Formed(p) {
				t.Errorf("%q: %v, %v", stmts, f, tree.Formed(p))
			}
		}
	}
	for _, stmts := range []string{"if a { }" + r("else if a { }", 15), r("if a { } else { ", 16) + r("}", 16)} {
		if p, f := tree.Parse(block(stmts)); f != (api.Fault{}) || !tree.Formed(p) {
			t.Errorf("%q: %v, %v", stmts, f, tree.Formed(p))
		}
	}
	if p, f := tree.Parse(all); f != (api.Fault{}) || !tree.Formed(p) {
		t.Errorf("%v", f)
	}
}

// P3.12: one plan, laid out and bracketed in several ways.
func TestLayout(t *testing.T) {
	r := rand.New(rand.NewSource(312))
	for range 500 {
		p := somePlan(r, 5)
		for range 3 {
			w := newWriter(r)
			w.extra, w.tight = r.Intn(2) == 0, r.Intn(3) == 0
			w.plan(p)
			q, f := tree.Parse(w.text.String())
			if f != (api.Fault{}) || !tree.Same(p, q) {
				t.Fatalf("%q is read as %+v, %v, want %+v", w.text.String(), q, f, p)
			}
		}
	}
}

// P3.12: each gap between two tokens, filled with each thing that is no token.
func TestGaps(t *testing.T) {
	tokens, _ := lex.Scan(all)
	want, _ := tree.Parse(all)
	for _, between := range []string{" ", "\n", "\r\n", "\t", "#\n", " # plan { ! \xff\r\n\t"} {
		var b strings.Builder
		for _, x := range tokens {
			word, _ := lex.Join([]api.Token{x})
			b.WriteString(between + word)
		}
		p, f := tree.Parse(b.String() + between)
		if f != (api.Fault{}) || !tree.Same(p, want) {
			t.Errorf("with %q between the tokens: %v", between, f)
		}
	}
}

// P3.12: brackets around any whole expression.
func TestBrackets(t *testing.T) {
	want, _ := tree.ParseExpr("not a + b * -c < min(d, abs(e)) and green(f) or true")
	for _, src := range []string{
		"(not a + b * -c < min(d, abs(e)) and green(f) or true)",
		"(not a + b * -c < min(d, abs(e)) and green(f)) or (true)",
		"((not a + b * -c < min(d, abs(e))) and (green(f))) or true",
		"(not (a + b * -c < min(d, abs(e)))) and green(f) or true",
		"not (a + b * -c) < (min(d, abs(e))) and green(f) or true",
		"not (a) + (b * -c) < min(d, abs(e)) and green(f) or true",
		"not ((a) + ((b) * (-c))) < min(d, abs(e)) and green(f) or true",
		"not a + b * (-(c)) < min((d), (abs((e)))) and green(f) or ((true))",
	} {
		e, f := tree.ParseExpr(src)
		if f != (api.Fault{}) || bareText(e) != bareText(want) {
			t.Errorf("ParseExpr(%q) = %+v, %v, want %+v", src, e, f, want)
		}
	}
	for n := range 65 {
		src := strings.Repeat("(", n) + "a - b" + strings.Repeat(")", n)
		if e, f := tree.ParseExpr(src); f != (api.Fault{}) || bareText(e) != "[{a 3 0} {b 3 0} { 31 0}]" {
			t.Errorf("%d brackets: %s, %v", n, bareText(e), f)
		}
	}
}

// bareText shows nodes without places.
func bareText(e []api.Node) string {
	var list []struct {
		name string
		op   int
		val  int32
	}
	for _, n := range e {
		list = append(list, struct {
			name string
			op   int
			val  int32
		}{n.Name, n.Op, n.Val})
	}
	return fmt.Sprint(list)
}

// P3.13: the declarations of two plans in one.
func TestDeclarationsOfTwo(t *testing.T) {
	r := rand.New(rand.NewSource(313))
	for range 400 {
		d, e := somePlan(r, 4).Decls, somePlan(r, 4).Decls
		w := newWriter(r)
		w.decls(d)
		first := w.text.String()
		w = newWriter(r)
		w.decls(e)
		second := w.text.String()
		p, f := tree.Parse("plan p { " + first + " }")
		q, g := tree.Parse("plan p { " + second + " }")
		both, h := tree.Parse("plan p { " + first + " " + second + " }")
		if f != (api.Fault{}) || g != (api.Fault{}) || h != (api.Fault{}) {
			t.Fatalf("%q, %q: %v, %v, %v", first, second, f, g, h)
		}
		want := api.Plan{Name: "p", Decls: append(append([]api.Decl(nil), p.Decls...), q.Decls...)}
		if !tree.Same(both, want) || len(both.Decls) != len(d)+len(e) {
			t.Fatalf("%q, %q: %+v, want %+v", first, second, both, want)
		}
	}
	// Not even the same declaration twice, or a name without one.
	twice := strings.Repeat("start s; timer s; stage s { green s, s; next s when s; } conflict s s 1 1; ", 3)
	if p, f := tree.Parse("plan s { " + twice + " }"); f != (api.Fault{}) || len(p.Decls) != 12 {
		t.Errorf("%d declarations, %v", len(p.Decls), f)
	}
	// As many as the text holds.
	if p, f := tree.Parse("plan s{" + strings.Repeat("timer a;", 8190) + "}"); f != (api.Fault{}) || len(p.Decls) != 8190 {
		t.Errorf("%d declarations, %v", len(p.Decls), f)
	}
}
