package tree_test

import (
	"math/rand"
	"strings"
	"testing"

	"junction/api"
	"junction/lex"
	"junction/tree"
)

func at(line, col int) api.Pos { return api.Pos{Line: line, Col: col} }

func fault(e api.Errno, line, col int) api.Fault { return api.Fault{Code: e, At: at(line, col)} }

// faultOf reads a text by that rule of the grammar and holds that beside a fault there is nothing.
func faultOf(t *testing.T, rule, src string) api.Fault {
	t.Helper()
	if rule == "alone" {
		e, f := tree.ParseExpr(src)
		if f != (api.Fault{}) && len(e) != 0 || f == (api.Fault{}) && len(e) == 0 {
			t.Errorf("ParseExpr(%.200q) = %v, %v", src, e, f)
		}
		return f
	}
	p, f := tree.Parse(src)
	if f != (api.Fault{}) && (p.Name != "" || len(p.Decls) != 0) || f == (api.Fault{}) && p.Name == "" {
		t.Errorf("Parse(%.200q) = %v, %v", src, p, f)
	}
	return f
}

func checkFault(t *testing.T, rule, src string, want api.Fault) {
	t.Helper()
	if got := faultOf(t, rule, src); got != want {
		t.Errorf("the fault of %.300q is %v, want %v", src, got, want)
	}
	if got := modelFault(rule, src); got != want {
		t.Errorf("by the grammar the fault of %.300q is %v, want %v", src, got, want)
	}
}

// spelling is a way to write a token of that kind.
func spelling(r *rand.Rand, kind int) string {
	switch kind {
	case api.TkName:
		return []string{"a", "b", "x_1", "Min", "greens", strings.Repeat("n", 32)}[r.Intn(6)]
	case api.TkNumber:
		return []string{"0", "1", "12", "0x1F", "1m30s", "2147483647"}[r.Intn(6)]
	}
	return lex.Word(kind)
}

// gap is what may stand between two tokens.
func gap(r *rand.Rand) string {
	return []string{" ", " ", " ", "\n", "\t\r ", " # a ( { $ \xff\n"}[r.Intn(6)]
}

// allKinds are those of all tokens, the end's too.
func allKinds() []int {
	kinds := []int{api.TkEnd, api.TkName, api.TkNumber}
	for k := api.TkPlan; k <= api.TkPercent; k++ {
		if lex.Word(k) != "" {
			kinds = append(kinds, k)
		}
	}
	return kinds
}

// walk goes at random through texts that the grammar begins with; at each place it calls look with the text so far.
func walk(r *rand.Rand, rule string, most int, often map[int]int, look func(src string, w ways)) string {
	src, w := "", begin(rule)
	for range most {
		look(src, w)
		var from []int
		for _, k := range w.kinds() {
			for range 1 + often[k] {
				from = append(from, k)
			}
		}
		k := from[r.Intn(len(from))]
		if k == api.TkEnd {
			break
		}
		src += spelling(r, k) + gap(r)
		w = w.behind(k)
	}
	return src
}

var closing = map[int]int{api.TkSemi: 12, api.TkClose: 3, api.TkRight: 8, api.TkOpen: 8, api.TkStage: 8, api.TkName: 3}

// P3.1: at each place of a text, every token there is: it is refused just where no text of the grammar goes on with it, and at its own place.
func TestEveryTokenEverywhere(t *testing.T) {
	r := rand.New(rand.NewSource(31))
	kinds := allKinds()
	if len(kinds) != 3+41+18 {
		t.Fatalf("%d kinds of tokens", len(kinds))
	}
	for _, c := range []struct {
		rule        string
		times, most int
	}{{"plan", 24, 70}, {"alone", 100, 20}} {
		for range c.times {
			walk(r, c.rule, c.most, closing, func(src string, w ways) {
				for _, k := range kinds {
					text := src + spelling(r, k)
					here := lex.Place(src, len(src))
					want := fault(api.ErrToken, here.Line, here.Col)
					if k != api.TkEnd && w.allow(k) {
						end := lex.Place(text, len(text))
						want.At = end
					}
					if k == api.TkEnd && w.allow(k) || k != api.TkEnd && w.behind(k).allow(api.TkEnd) {
						want = api.Fault{}
					}
					if got := faultOf(t, c.rule, text); got != want {
						t.Fatalf("%q: %v, want %v", text, got, want)
					}
				}
			})
		}
	}
}

// P3.1: all texts of expressions of up to five tokens.
func TestShortExpressions(t *testing.T) {
	words := []string{"a", "1", "green", "(", ")", "min", "abs", ",", "-", "+", "*", "<", "not", "and", "or", ";"}
	taken := 0
	var try func(src string, left int)
	try = func(src string, left int) {
		want := modelFault("alone", src)
		got := faultOf(t, "alone", src)
		if got != want {
			t.Fatalf("%q: %v, want %v", src, got, want)
		}
		if got == (api.Fault{}) {
			taken++
		}
		// Behind a fault ahead of the end nothing changes it: one more token shows that, more show no more.
		if left == 0 || got != (api.Fault{}) && got.At != lex.Place(src, len(src)) && left < 4 {
			return
		}
		for _, w := range words {
			try(src+w+" ", left-1)
		}
	}
	try("", 5)
	if taken < 500 {
		t.Errorf("only %d texts are taken", taken)
	}
}

// P3.1: long and deep texts at random, against the grammar and the limits.
func TestFaultsAtRandom(t *testing.T) {
	r := rand.New(rand.NewSource(13))
	deep := map[int]int{api.TkLeft: 14, api.TkMinus: 10, api.TkNot: 10, api.TkAbs: 3, api.TkSet: 4, api.TkCond: 40}
	long := map[int]int{api.TkName: 40, api.TkPlus: 20, api.TkAnd: 10, api.TkCond: 40}
	ifs := map[int]int{api.TkStage: 300, api.TkEnter: 60, api.TkIf: 60, api.TkElse: 60, api.TkOpen: 100, api.TkClose: 8, api.TkSemi: 40, api.TkName: 20}
	count := map[api.Errno]int{}
	for _, c := range []struct {
		rule  string
		times int
		most  int
		often map[int]int
	}{{"alone", 120, 300, deep}, {"alone", 40, 700, long}, {"plan", 80, 300, deep}, {"plan", 40, 700, long}, {"plan", 150, 400, ifs}, {"plan", 100, 400, closing}} {
		for range c.times {
			src := walk(r, c.rule, c.most, c.often, func(string, ways) {})
			want := modelFault(c.rule, src)
			if got := faultOf(t, c.rule, src); got != want {
				t.Fatalf("%q: %v, want %v", src, got, want)
			}
			count[want.Code]++
			spoilt := spoil(r, src)
			want = modelFault(c.rule, spoilt)
			if got := faultOf(t, c.rule, spoilt); got != want {
				t.Fatalf("%q: %v, want %v", spoilt, got, want)
			}
			count[want.Code]++
		}
	}
	for _, e := range []api.Errno{api.OK, api.ErrToken, api.ErrDeep, api.ErrNodes, api.ErrByte} {
		if count[e] < 20 {
			t.Errorf("the error %d has come %d times alone", e, count[e])
		}
	}
}

// spoil puts something else in the place of a piece of a text.
func spoil(r *rand.Rand, src string) string {
	i := r.Intn(len(src) + 1)
	j := min(len(src), i+r.Intn(3))
	return src[:i] + []string{"", " ", ";", "(", ")", "}", " if ", " x ", " - ", " not ", "$"}[r.Intn(11)] + src[j:]
}

// P3.1: the first token that may not stand where it does, in expressions.
func TestExpressionTokens(t *testing.T) {
	for src, col := range map[string]int{
		"": 1, "a +": 4, "a b": 3, "a < b < c": 7, "a + not b": 5, "- not a": 3, "a == not b": 6, "a * not b": 5, "a == b == c": 8, "a and or b": 7, "a = b": 3,
		"(a": 3, "a)": 2, "()": 2, "(a,b)": 3, "((a)": 5, "min(a)": 6, "max(a)": 6, "min(a,b,c)": 8, "abs(a,b)": 6, "abs()": 5, "min a": 5, "abs a": 5, "min": 4,
		"green": 6, "green a": 7, "green(": 7, "green(1)": 7, "green()": 7, "green((a))": 7, "green(a": 8, "green(a,b)": 8, "red(red)": 5, "red(a)(": 7, "red(-a)": 5,
		"plan": 1, "a plan": 3, "elapsed elapsed": 9, "true(": 5, "1 2": 3, "1(": 2, "not": 4, "-": 2, "*a": 1, "+a": 1, "a - - + b": 7, "a;": 2, "a{": 2, "vehicle": 1, "when": 1,
	} {
		checkFault(t, "alone", src, fault(api.ErrToken, 1, col))
	}
	for _, src := range []string{"a", "(a < b) < c", "a + (not b)", "not not a", "- - a", "a - -b", "a - - -b", "not -a", "not a == -b", "a < -b", "a and not b", "min(a,b)", "abs(a or b)", "max(not a, (b))", "green(a) or red(b)", "1 + true", "((((a))))"} {
		checkFault(t, "alone", src, api.Fault{})
	}
}

// P3.1: the first token that may not stand where it does, in plans.
func TestPlanTokens(t *testing.T) {
	for src, col := range map[string]int{
		"": 1, "plan": 5, "plan min": 6, "plan p": 7, "plan p {": 9, "plan p }": 8, "plan 1 {}": 6, "p {}": 1, "plan p { } x": 12, "plan p {};": 10, "plan p {} plan q {}": 11, "plan p {{}}": 9,
		"plan p { x = 3; }": 10, "plan p { ; }": 10, "plan p { green a; }": 10, "plan p { if a {} }": 10,
		"plan p { const = 1; }": 16, "plan p { const c 1; }": 18, "plan p { const c = a; }": 20, "plan p { const c = 1 }": 22, "plan p { const c = -; }": 21, "plan p { var x = - 3 }": 22, "plan p { var x = --3; }": 19, "plan p { var x = +3; }": 18, "plan p { var x = (3); }": 18, "plan p { var x = 3 + 4; }": 20, "plan p { var x == 3; }": 16, "plan p { var min = 3; }": 14, "plan p { const c = true; }": 20,
		"plan p { group g min 1; }": 18, "plan p { group g vehicle amber 1; }": 26, "plan p { group g vehicle min 1; }": 31, "plan p { group g vehicle min -1 amber 1; }": 30, "plan p { group g vehicle min 1 amber 1 2; }": 40, "plan p { group g vehicle min 1 amber 1 lead; }": 44, "plan p { group g vehicle min 1 lead 1 amber 1; }": 32, "plan p { group g vehicle pedestrian min 1 amber 1; }": 26, "plan p { group vehicle min 1 amber 1; }": 16, "plan p { group g vehicle min 1 amber 1 lead 1 lead 1; }": 47,
		"plan p { conflict a b 1; }": 24, "plan p { conflict a 1 2; }": 21, "plan p { conflict a b 1 2 3; }": 27, "plan p { conflict a, b 1 2; }": 20, "plan p { conflict a b -1 2; }": 23,
		"plan p { detector d hold 1 delay 2; }": 28, "plan p { detector d delay 1 latch; }": 29, "plan p { detector d latch latch; }": 27, "plan p { detector d hold; }": 25, "plan p { detector d delay 1 delay 1; }": 29, "plan p { detector d hold -1; }": 26, "plan p { detector d 1; }": 21,
		"plan p { timer t }": 18, "plan p { timer t;": 18, "plan p { timer t = 1; }": 18, "plan p { timer a, b; }": 17, "plan p { counter 1; }": 18, "plan p { counter }": 18, "plan p { start stage; }": 16, "plan p { start; }": 15, "plan p { start a b; }": 18,
		"plan p { cond c = ; }": 19, "plan p { cond c = a b; }": 21, "plan p { cond c = (a; }": 21, "plan p { cond c a; }": 17, "plan p { cond c = a } }": 21, "plan p { cond c = a = b; }": 21, "plan p { cond c = a": 20,
		"plan p { stage s }": 18, "plan p { stage { green; } }": 16, "plan p { stage s { } }": 20, "plan p { stage s { green }": 26, "plan p { stage s { green a,; } }": 28, "plan p { stage s { green a b; } }": 28, "plan p { stage s { green ,a; } }": 26, "plan p { stage s { green; green; } }": 27, "plan p { stage s { green; };": 28, "plan p { stage s { enter {} green; } }": 20, "plan p { stage s { green (a); } }": 26,
		"plan p { stage s { green; during {} enter {} } }": 37, "plan p { stage s { green; leave {} during {} } }": 36, "plan p { stage s { green; enter {} enter {} } }": 36, "plan p { stage s { green; enter ; } }": 33, "plan p { stage s { green; enter {}; } }": 35, "plan p { stage s { green; next t when 1; leave {} } }": 42, "plan p { stage s { green; next t; } }": 33, "plan p { stage s { green; next when 1; } }": 32, "plan p { stage s { green; next t when; } }": 38, "plan p { stage s { green; next t when 1 } }": 41, "plan p { stage s { green; when 1; } }": 27,
		"plan p { stage s { green; enter { if a { } else } } }": 49, "plan p { stage s { green; enter { else { } } } }": 35, "plan p { stage s { green; enter { if a { } else { } else { } } } }": 53, "plan p { stage s { green; enter { if { } } } }": 38, "plan p { stage s { green; enter { if a run t; } } }": 40, "plan p { stage s { green; enter { if a { } ; } } }": 44, "plan p { stage s { green; enter { if (a { } } } }": 41, "plan p { stage s { green; enter { if a { } else run t; } } }": 49,
		"plan p { stage s { green; enter { run 1; } } }": 39, "plan p { stage s { green; enter { run t } } }": 41, "plan p { stage s { green; enter { x == 1; } } }": 37, "plan p { stage s { green; enter { x = 1 } } }": 41, "plan p { stage s { green; enter { x; } } }": 36, "plan p { stage s { green; enter { clear; } } }": 40, "plan p { stage s { green; enter { { } } } }": 35, "plan p { stage s { green; enter { next a when 1; } } }": 35, "plan p { stage s { green; enter { ; } } }": 35, "plan p { stage s { green; enter { reset a, b; } } }": 42,
	} {
		checkFault(t, "plan", src, fault(api.ErrToken, 1, col))
	}
}

// head is what stands ahead of the statements of a block.
const head = "plan p{stage s{green;enter{"

func block(stmts string) string { return head + stmts + "}}}" }

// P3.1: how deep an expression may be, to the token, for each thing that opens.
func TestDepth(t *testing.T) {
	r := strings.Repeat
	for _, c := range []struct {
		src  string
		want api.Fault
	}{
		{r("(", 64) + "a" + r(")", 64), api.Fault{}},
		{r("(", 65) + "a" + r(")", 65), fault(api.ErrDeep, 1, 65)},
		{r("-", 64) + "a", api.Fault{}},
		{r("-", 65) + "a", fault(api.ErrDeep, 1, 65)},
		{r("not ", 64) + "a", api.Fault{}},
		{r("not ", 65) + "a", fault(api.ErrDeep, 1, 64*4+1)},
		{r("abs(", 64) + "a" + r(")", 64), api.Fault{}},
		{r("abs(", 65) + "a" + r(")", 65), fault(api.ErrDeep, 1, 64*4+4)},
		{r("min(a,", 64) + "a" + r(")", 64), api.Fault{}},
		{r("min(", 64) + "a" + r(",a)", 64), api.Fault{}},
		{r("max(a,", 65) + "a" + r(")", 65), fault(api.ErrDeep, 1, 64*6+4)},
		{r("(-", 32) + "a" + r(")", 32), api.Fault{}},
		{r("(-", 32) + "(a", fault(api.ErrDeep, 1, 65)},
		{r("(-", 32) + "-a", fault(api.ErrDeep, 1, 65)},
		{r("(not ", 32) + "not a", fault(api.ErrDeep, 1, 32*5+1)},
		{r("not ", 32) + r("-", 32) + "a == (a)", api.Fault{}},
		{r("not ", 63) + "a == (a)", api.Fault{}},
		{r("not ", 64) + "a == (a)", fault(api.ErrDeep, 1, 64*4+6)},
		{r("not ", 64) + "a == -a", fault(api.ErrDeep, 1, 64*4+6)},
		{r("not ", 64) + "a * b + (a)", fault(api.ErrDeep, 1, 64*4+9)},
		{r("not ", 64) + "a and (a)", api.Fault{}},
		{r("not ", 64) + "a or not a", api.Fault{}},
		{r("-", 64) + "a * (a)", api.Fault{}},
		{r("-", 64) + "a - -a", api.Fault{}},
		{r("-", 63) + "(-a)", fault(api.ErrDeep, 1, 65)},
		{r("-", 63) + "(a) + -a", api.Fault{}},
		{r("(", 63) + "(a)*(b)-(c)" + r(")", 63), api.Fault{}},
		{r("(", 63) + "(-a", fault(api.ErrDeep, 1, 65)},
		{r("(", 64) + "green(a)" + r(")", 64), api.Fault{}},
		{r("-", 64) + "red(a)", api.Fault{}},
		{r("not ", 64) + "red(a) == (b)", fault(api.ErrDeep, 1, 64*4+11)},
		{r("(", 64) + "a-b" + r(")", 64), api.Fault{}},
		{r("(", 200), fault(api.ErrDeep, 1, 65)},
		{r("(", 65) + ";", fault(api.ErrDeep, 1, 65)},
		{r("(", 64) + ")", fault(api.ErrToken, 1, 65)},
		{r("(", 64), fault(api.ErrToken, 1, 65)},
		{r("(", 64) + "abs(a)", fault(api.ErrDeep, 1, 68)},
		{r("(", 64) + "abs a", fault(api.ErrToken, 1, 69)},
		{r("-", 64) + "not a", fault(api.ErrToken, 1, 65)},
		{r("(", 60000), fault(api.ErrDeep, 1, 65)},
	} {
		checkFault(t, "alone", c.src, c.want)
		// In a plan the same, so much farther on; but there a ; may come where an end may not.
		const ahead = "x = -1; x = "
		want := c.want
		if want.Code == api.ErrDeep {
			want.At.Col += len(head) + len(ahead)
		}
		if want.Code != api.ErrToken {
			checkFault(t, "plan", block(ahead+c.src+";"), want)
		}
	}
}

// P3.1: brackets and prefixes are counted anew for each expression, and apart from ifs.
func TestDepthIsOfOneExpression(t *testing.T) {
	deep := strings.Repeat("(", 64) + "a" + strings.Repeat(")", 64)
	ifs := strings.Repeat("if "+deep+" {", 16) + "x = " + deep + ";" + strings.Repeat("}", 16)
	checkFault(t, "plan", block(strings.Repeat("x = "+deep+";", 5)+ifs+ifs), api.Fault{})
	checkFault(t, "plan", "plan p { cond c = "+deep+"; cond d = "+deep+"; stage s { green; next s when "+deep+"; next s when -"+deep+"; } }", fault(api.ErrDeep, 1, 18+129+len("; cond d = ")+129+len("; stage s { green; next s when ")+129+len("; next s when -")+64))
}

// P3.1: how many ifs may be open at once; else is within its if, and an if behind else too.
func TestIfs(t *testing.T) {
	r := strings.Repeat
	deep := func(stmts string) api.Fault { return fault(api.ErrDeep, 1, len(head)+len(stmts)+1) }
	for _, c := range []struct {
		stmts string
		want  api.Fault
	}{
		{r("if a{", 16) + r("}", 16), api.Fault{}},
		{r("if a{", 17) + r("}", 17), deep(r("if a{", 16))},
		{r("if a{}", 40), api.Fault{}},
		{"if a{}" + r("else if a{}", 15), api.Fault{}},
		{"if a{}" + r("else if a{}", 15) + "else{run a;}", api.Fault{}},
		{"if a{}" + r("else if a{}", 16), deep("if a{}" + r("else if a{}", 15) + "else ")},
		{r("if a{}else{", 16) + r("}", 16), api.Fault{}},
		{r("if a{}else{", 17) + r("}", 17), deep(r("if a{}else{", 16))},
		{r("if a{", 8) + "if a{}" + r("else if a{}", 7) + r("}", 8), api.Fault{}},
		{r("if a{", 8) + "if a{}" + r("else if a{}", 8) + r("}", 8), deep(r("if a{", 8) + "if a{}" + r("else if a{}", 7) + "else ")},
		{r("if a{", 15) + "if a{}if a{}" + r("}", 15) + r("if a{", 16) + r("}", 16), api.Fault{}},
		{r("if a{", 15) + "if a{}if a{if", deep(r("if a{", 15) + "if a{}if a{")},
		{r("if a{", 16) + "if if", deep(r("if a{", 16))},
		{r("if a{", 16) + "else", fault(api.ErrToken, 1, len(head)+16*5+1)},
		{r("if a{", 16) + "x = if", fault(api.ErrToken, 1, len(head)+16*5+5)},
	} {
		checkFault(t, "plan", block(c.stmts), c.want)
	}
	checkFault(t, "plan", "plan p{stage s{green;enter{"+r("if a{", 16)+r("}", 16)+"}during{"+r("if a{", 16)+r("}", 16)+"}leave{"+r("if a{", 16)+r("}", 16)+"}}}", api.Fault{})
}

// P3.1: how many nodes an expression may have, to the token, for each thing that makes one; what makes none.
func TestNodes(t *testing.T) {
	r := strings.Repeat
	most := "a" + r("+a", 127) // 255 nodes
	for _, c := range []struct {
		src  string
		want api.Fault
	}{
		{most, api.Fault{}},
		{"-" + most, api.Fault{}},
		{"not " + most, api.Fault{}},
		{"abs(" + most + ")", api.Fault{}},
		{"abs(-" + most + ")", fault(api.ErrNodes, 1, 260)},
		{most + "+a", fault(api.ErrNodes, 1, 257)},
		{most + "+green(a)", fault(api.ErrNodes, 1, 257)},
		{most + "+elapsed", fault(api.ErrNodes, 1, 257)},
		{most + "+true", fault(api.ErrNodes, 1, 257)},
		{most + "+7", fault(api.ErrNodes, 1, 257)},
		{most + "+min(a,b)", fault(api.ErrNodes, 1, 257)},
		{most + "+-a", fault(api.ErrNodes, 1, 257)},
		{most + "+(a)", fault(api.ErrNodes, 1, 258)},
		{"-" + most + "<a", fault(api.ErrNodes, 1, 257)},
		{"-" + most + " and a", fault(api.ErrNodes, 1, 258)},
		{"-" + most + " or a", fault(api.ErrNodes, 1, 258)},
		{"-" + most + "*a", fault(api.ErrNodes, 1, 257)},
		{most + "+", fault(api.ErrToken, 1, 257)},
		{most + "+)", fault(api.ErrToken, 1, 257)},
		{"-" + most + " a", fault(api.ErrToken, 1, 258)},
		{"-" + most + " not a", fault(api.ErrToken, 1, 258)},
		{"red(a)" + r("+red(a)", 127), api.Fault{}},
		{"red(a)" + r("+red(a)", 128), fault(api.ErrNodes, 1, 6+127*7+2)},
		{r("(a)+", 127) + "((a))", api.Fault{}},
		{r("-a+", 200) + "1", fault(api.ErrNodes, 1, 257)},
		{r("a+", 20000) + "1", fault(api.ErrNodes, 1, 257)},
		{"a" + r(" and a", 127) + " or min(", fault(api.ErrNodes, 1, 1+127*6+5)},
		// One token that passes both limits is too deep ahead of all else.
		{"a" + r("+a", 95) + "+" + r("-", 64) + "-a", fault(api.ErrDeep, 1, 257)},
		{"a" + r("+a", 95) + "+" + r("-", 64) + "a", fault(api.ErrNodes, 1, 257)},
		{"a" + r(" or a", 95) + " or " + r("not ", 64) + "not a", fault(api.ErrDeep, 1, 1+95*5+4+64*4+1)},
	} {
		checkFault(t, "alone", c.src, c.want)
	}
	// Each expression has its own.
	checkFault(t, "plan", block(r("x = -"+most+";", 20)+"if -"+most+"{}"), api.Fault{})
	checkFault(t, "plan", block("x = -"+most+"; x = -"+most+"+a;"), fault(api.ErrNodes, 1, len(head)+4+256+6+256+1))
}

// P3.1: lex's faults come ahead of all others, wherever they stand.
func TestFaultsOfLex(t *testing.T) {
	r := strings.Repeat
	for src, want := range map[string]api.Fault{
		"a $":                                   fault(api.ErrByte, 1, 3),
		"a b $":                                 fault(api.ErrByte, 1, 5),
		"; ) }\n 1x":                            fault(api.ErrForm, 2, 2),
		"a + 99999999999":                       fault(api.ErrBig, 1, 5),
		r("n", 33):                              fault(api.ErrName, 1, 1),
		r("(", 65) + "!":                        fault(api.ErrByte, 1, 66),
		r("(", 65) + r(" ", 1<<16):              {Code: api.ErrLong},
		r("a+", 300) + "_":                      fault(api.ErrByte, 1, 601),
		r(" ", 1<<16) + "a":                     {Code: api.ErrLong},
		r("$", 1<<16+1):                         {Code: api.ErrLong},
		"plan p { } x !":                        fault(api.ErrByte, 1, 14),
		"plan p { timer t }\n timer 2147483648": fault(api.ErrBig, 2, 8),
	} {
		checkFault(t, "alone", src, want)
		checkFault(t, "plan", src, want)
	}
}

// P3.1: a fault hangs on the tokens up to its own alone.
func TestWhatStandsBehindAFault(t *testing.T) {
	tails := []string{"", " ", "}", " )))", "; plan p {}", "\n# a\n", " if not - (", " a", "= 1;"}
	for src, f := range map[string]api.Fault{
		"plan p { var x = --3":                            fault(api.ErrToken, 1, 19),
		"plan p { group g vehicle\n amber":                fault(api.ErrToken, 2, 2),
		"plan p { } x":                                    fault(api.ErrToken, 1, 12),
		block("x = " + strings.Repeat("(", 65)):           fault(api.ErrDeep, 1, len(head)+69),
		block(strings.Repeat("if a{", 17)):                fault(api.ErrDeep, 1, len(head)+81),
		block("x = a" + strings.Repeat("+a", 128)):        fault(api.ErrNodes, 1, len(head)+4+257),
		"plan p { cond c = a < b < ":                      fault(api.ErrToken, 1, 25),
		"plan p { stage s { green; enter { x == 1; } } }": fault(api.ErrToken, 1, 37),
	} {
		for _, tail := range tails {
			checkFault(t, "plan", src+" "+tail, f)
		}
	}
}

// P3.1: places are lines and columns in bytes; a text that ends too early has its fault at its very end, behind blanks and comments.
func TestPlacesOfFaults(t *testing.T) {
	for src, want := range map[string]api.Fault{
		"\n\n plan p {\n\tvar x = ;\n}": fault(api.ErrToken, 4, 10),
		"plan p {\r\n}\r\n\t}":          fault(api.ErrToken, 3, 2),
		"plan p {\n# }":                 fault(api.ErrToken, 2, 4),
		"plan p { \n\n ":                fault(api.ErrToken, 3, 2),
		"plan # \xc3\xa4\xc3\xa4\nplan": fault(api.ErrToken, 2, 1),
		" ":                             fault(api.ErrToken, 1, 2),
		"\n":                            fault(api.ErrToken, 2, 1),
	} {
		checkFault(t, "plan", src, want)
	}
}
