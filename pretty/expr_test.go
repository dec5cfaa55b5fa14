package pretty_test

import (
	"math/rand"
	"reflect"
	"slices"
	"strings"
	"testing"

	"junction/api"
	"junction/lex"
	"junction/pretty"
	"junction/tree"
)

func checkExpr(t *testing.T, e []api.Node, want string) {
	t.Helper()
	if got, errno := pretty.Expr(e); got != want || errno != api.OK {
		t.Errorf("Expr(%v) = %q, %d, want %q", e, got, errno, want)
	}
}

func number(n int32) []api.Node { return []api.Node{{Op: api.OpInt, Val: n}} }

// P4.1: the rows of the table, each by itself.
func TestExprRows(t *testing.T) {
	a, b := leaf("a"), leaf("b")
	for _, c := range []struct {
		e    []api.Node
		want string
	}{
		{number(0), "0"},
		{number(7), "7"},
		{number(1000000), "1000000"},
		{number(api.MaxWord), "2147483647"},
		{[]api.Node{{Op: api.OpBool, Val: 1}}, "true"},
		{[]api.Node{{Op: api.OpBool}}, "false"},
		{a, "a"},
		{leaf("Min"), "Min"},
		{leaf(strings.Repeat("n", 32)), strings.Repeat("n", 32)},
		{[]api.Node{{Op: api.OpElapsed}}, "elapsed"},
		{[]api.Node{{Op: api.OpGreen, Name: "g"}}, "green(g)"},
		{[]api.Node{{Op: api.OpRed, Name: "r1"}}, "red(r1)"},
		{over(api.OpNeg, a), "-a"},
		{over(api.OpNeg, number(5)), "-5"},
		{over(api.OpNot, a), "not a"},
		{over(api.OpAbs, a), "abs(a)"},
		{over(api.OpMin, a, b), "min(a, b)"},
		{over(api.OpMax, a, b), "max(a, b)"},
		{over(api.OpAdd, a, b), "a + b"},
		{over(api.OpSub, a, b), "a - b"},
		{over(api.OpMul, a, b), "a * b"},
		{over(api.OpDiv, a, b), "a / b"},
		{over(api.OpRem, a, b), "a % b"},
		{over(api.OpEq, a, b), "a == b"},
		{over(api.OpNe, a, b), "a != b"},
		{over(api.OpLt, a, b), "a < b"},
		{over(api.OpLe, a, b), "a <= b"},
		{over(api.OpGt, a, b), "a > b"},
		{over(api.OpGe, a, b), "a >= b"},
		{over(api.OpAnd, a, b), "a and b"},
		{over(api.OpOr, a, b), "a or b"},
	} {
		checkExpr(t, c.e, c.want)
	}
}

// P4.1: where the chapter's examples have brackets.
func TestExprExamples(t *testing.T) {
	a, b, c, d := leaf("a"), leaf("b"), leaf("c"), leaf("d")
	for _, x := range []struct {
		e    []api.Node
		want string
	}{
		{over(api.OpAdd, a, over(api.OpMul, b, over(api.OpNeg, c))), "a + b * -c"},
		{over(api.OpMul, over(api.OpAdd, a, b), c), "(a + b) * c"},
		{over(api.OpSub, a, over(api.OpSub, b, c)), "a - (b - c)"},
		{over(api.OpSub, over(api.OpSub, a, b), c), "a - b - c"},
		{over(api.OpAnd, over(api.OpNot, over(api.OpOr, a, b)), over(api.OpLt, c, d)), "not (a or b) and c < d"},
		{over(api.OpNeg, over(api.OpNeg, a)), "--a"},
		{over(api.OpNeg, over(api.OpAdd, a, b)), "-(a + b)"},
		{over(api.OpMin, a, over(api.OpOr, b, c)), "min(a, b or c)"},
		{over(api.OpMax, over(api.OpOr, b, c), a), "max(b or c, a)"},
		{over(api.OpAbs, over(api.OpNeg, number(5))), "abs(-5)"},
		{over(api.OpAbs, over(api.OpOr, a, b)), "abs(a or b)"},
		{over(api.OpEq, over(api.OpNot, a), b), "(not a) == b"},
		{over(api.OpNot, over(api.OpEq, a, b)), "not a == b"},
		{over(api.OpLt, over(api.OpLt, a, b), c), "(a < b) < c"},
		{over(api.OpLt, a, over(api.OpLt, b, c)), "a < (b < c)"},
		{over(api.OpNot, over(api.OpNot, a)), "not not a"},
		{over(api.OpNeg, over(api.OpNot, a)), "-(not a)"},
		{over(api.OpAdd, a, over(api.OpNot, b)), "a + (not b)"},
		{over(api.OpNot, over(api.OpNeg, a)), "not -a"},
		{over(api.OpSub, a, over(api.OpNeg, b)), "a - -b"},
		{over(api.OpMul, over(api.OpNeg, a), b), "-a * b"},
		{over(api.OpNeg, over(api.OpMul, a, b)), "-(a * b)"},
		{over(api.OpOr, over(api.OpOr, a, b), c), "a or b or c"},
		{over(api.OpOr, a, over(api.OpOr, b, c)), "a or (b or c)"},
		{over(api.OpAnd, over(api.OpOr, a, b), over(api.OpNot, c)), "(a or b) and not c"},
		{over(api.OpOr, over(api.OpAnd, a, b), c), "a and b or c"},
		{over(api.OpMul, over(api.OpOr, over(api.OpAdd, a, b), c), d), "(a + b or c) * d"},
		{over(api.OpNeg, over(api.OpMul, over(api.OpAdd, a, b), c)), "-((a + b) * c)"},
	} {
		checkExpr(t, x.e, x.want)
	}
}

// trees are all of so many operators over the name a.
func trees(operators int) [][]api.Node {
	if operators == 0 {
		return [][]api.Node{leaf("a")}
	}
	var out [][]api.Node
	for _, under := range trees(operators - 1) {
		for _, op := range prefixOps {
			out = append(out, over(op, under))
		}
	}
	for first := range operators {
		for _, x := range trees(first) {
			for _, y := range trees(operators - 1 - first) {
				for _, op := range pairOps {
					out = append(out, over(op, x, y))
				}
			}
		}
	}
	return out
}

// partners are the places of the brackets that stand around an operand, in pairs.
func partners(text string) [][2]int {
	tokens, _ := lex.Scan(text)
	var open []int
	var pairs [][2]int
	for i, token := range tokens {
		switch token.Kind {
		case api.TkLeft:
			open = append(open, i)
		case api.TkRight:
			left := open[len(open)-1]
			open = open[:len(open)-1]
			named := left > 0 && slices.Contains([]int{api.TkGreen, api.TkRed, api.TkMin, api.TkMax, api.TkAbs}, tokens[left-1].Kind)
			if !named {
				pairs = append(pairs, [2]int{tokens[left].At.Col - 1, token.At.Col - 1})
			}
		}
	}
	return pairs
}

// checkFewest holds P4.7 of a text: no pair around an operand can be left out.
func checkFewest(t *testing.T, text string, e []api.Node) {
	t.Helper()
	for _, pair := range partners(text) {
		less := text[:pair[0]] + text[pair[0]+1:pair[1]] + text[pair[1]+1:]
		if got, fault := tree.ParseExpr(less); fault == (api.Fault{}) && sameExpr(got, e) {
			t.Errorf("%q is the tree of %q too", less, text)
		}
	}
}

// checkBack holds P4.4 of an expression.
func checkBack(t *testing.T, text string, e []api.Node) {
	t.Helper()
	if got, fault := tree.ParseExpr(text); fault != (api.Fault{}) || !sameExpr(got, e) {
		t.Errorf("%q of %v is read as %v, %v", text, e, got, fault)
	}
}

// P4.1, P4.4, P4.7: every tree of up to three operators.
func TestSmallTrees(t *testing.T) {
	seen := map[string]bool{}
	for operators := range 4 {
		for _, e := range trees(operators) {
			text, errno := pretty.Expr(e)
			if want := modelExpr(e); text != want || errno != api.OK {
				t.Fatalf("Expr(%v) = %q, %d, want %q", e, text, errno, want)
			}
			if seen[text] {
				t.Fatalf("%q is the text of two trees", text)
			}
			seen[text] = true
			checkBack(t, text, e)
			checkFewest(t, text, e)
		}
	}
	if len(seen) != 1+18+594+24462 {
		t.Errorf("%d trees", len(seen))
	}
}

// P4.1, P4.4, P4.7: large trees of all kinds of leaves.
func TestTreesAtRandom(t *testing.T) {
	r := rand.New(rand.NewSource(41))
	taken := 0
	for range 4000 {
		e := anyExpr(r, 1+r.Intn(60))
		if !tree.FormedExpr(e) {
			continue
		}
		taken++
		text, errno := pretty.Expr(e)
		if want := modelExpr(e); text != want || errno != api.OK {
			t.Fatalf("Expr(%v) = %q, %d, want %q", e, text, errno, want)
		}
		checkBack(t, text, e)
		checkFewest(t, text, e)
	}
	if taken < 3500 {
		t.Errorf("only %d trees", taken)
	}
}

// chained is a tree of so many of an operator, each the first (or the second) operand of the next.
func chained(op, times int, left bool) []api.Node {
	e := leaf("a")
	for range times {
		switch {
		case op < 30:
			e = over(op, e)
		case left:
			e = over(op, e, leaf("b"))
		default:
			e = over(op, leaf("b"), e)
		}
	}
	return e
}

// P4.1: expressions at the limits are printed, those past them refused.
func TestExprLimits(t *testing.T) {
	r := strings.Repeat
	for _, c := range []struct {
		e    []api.Node
		want string
	}{
		{chained(api.OpAdd, 127, true), "a" + r(" + b", 127)},
		{over(api.OpNeg, chained(api.OpMul, 127, true)), "-(a" + r(" * b", 127) + ")"},
		{over(api.OpNeg, chained(api.OpMul, 128, true)), ""},
		{chained(api.OpAdd, 128, true), ""},
		{chained(api.OpNeg, 64, true), r("-", 64) + "a"},
		{chained(api.OpNeg, 65, true), ""},
		{chained(api.OpNot, 64, true), r("not ", 64) + "a"},
		{chained(api.OpNot, 65, true), ""},
		{chained(api.OpAbs, 64, true), r("abs(", 64) + "a" + r(")", 64)},
		{chained(api.OpAbs, 65, true), ""},
		{chained(api.OpMax, 64, true), r("max(", 64) + "a" + r(", b)", 64)},
		{chained(api.OpMax, 65, false), ""},
		{chained(api.OpSub, 65, false), r("b - (", 64) + "b - a" + r(")", 64)},
		{chained(api.OpSub, 66, false), ""},
		{chained(api.OpLt, 65, true), r("(", 64) + "a < b" + r(") < b", 64)},
		{chained(api.OpLt, 66, true), ""},
	} {
		if c.want == "" {
			checkRefused(t, c.e)
			continue
		}
		checkExpr(t, c.e, c.want)
		checkBack(t, c.want, c.e)
		checkFewest(t, c.want, c.e)
	}
}

func checkRefused(t *testing.T, e []api.Node) {
	t.Helper()
	if got, errno := pretty.Expr(e); got != "" || errno != api.ErrTree {
		t.Errorf("Expr(%v) = %q, %d, want ErrTree", e, got, errno)
	}
	p := planOf(e)
	if got, errno := pretty.Print(p); got != "" || errno != api.ErrTree {
		t.Errorf("Print(%v) = %q, %d, want ErrTree", p, got, errno)
	}
}

// P4.1: what is no well-formed expression.
func TestExprRefuses(t *testing.T) {
	a := leaf("a")
	for _, e := range [][]api.Node{
		nil,
		{},
		slices.Concat(a, a),
		{{}},
		{{Op: api.OpNeg}},
		{{Op: api.OpAdd}},
		over(api.OpAdd, a),
		over(api.OpAdd, a, a, a),
		over(99, a, a),
		over(-1, a),
		over(23, a),
		over(37, a, a),
		over(46, a, a),
		over(52, a, a),
		over(1<<62, a),
		number(-1),
		number(-1 << 31),
		{{Op: api.OpInt, Name: "a"}},
		{{Op: api.OpBool, Val: 2}},
		{{Op: api.OpBool, Val: -1}},
		{{Op: api.OpBool, Name: "true"}},
		{{Op: api.OpName}},
		leaf("min"),
		leaf("1"),
		leaf("a b"),
		leaf("a)"),
		leaf(strings.Repeat("n", 33)),
		{{Op: api.OpName, Name: "a", Val: 1}},
		{{Op: api.OpGreen}},
		{{Op: api.OpRed, Name: "red"}},
		{{Op: api.OpElapsed, Val: 1}},
		{{Op: api.OpElapsed, Name: "elapsed"}},
		{{Op: api.OpVar}},
		{{Op: api.OpTimer}},
		{{Op: api.OpCounter}},
		{{Op: api.OpDet}},
		append(leaf("a"), api.Node{Op: api.OpNeg, Val: 1}),
		append(slices.Concat(a, a), api.Node{Op: api.OpOr, Name: "or"}),
	} {
		checkRefused(t, e)
	}
}

// P4.1: lists of any nodes are taken just where tree.FormedExpr takes them, and no call panics.
func TestExprOfAnything(t *testing.T) {
	r := rand.New(rand.NewSource(14))
	taken := 0
	for range 60000 {
		e := make([]api.Node, r.Intn(6))
		for i := range e {
			e[i] = api.Node{Op: pick(r, 1, 2, 3, 4, 5, 7, 20, 21, 22, 30, 36, 41, 51, r.Intn(60)-3), Val: pick[int32](r, 0, 0, 0, 1, -1), Name: pick(r, "", "", "a", "if")}
			if (e[i].Op == api.OpName || e[i].Op == api.OpGreen) && r.Intn(2) == 0 {
				e[i].Name, e[i].Val = "b", 0
			}
		}
		text, errno := pretty.Expr(e)
		if !tree.FormedExpr(e) {
			if text != "" || errno != api.ErrTree {
				t.Fatalf("Expr(%v) = %q, %d, want ErrTree", e, text, errno)
			}
			continue
		}
		taken++
		if want := modelExpr(e); text != want || errno != api.OK {
			t.Fatalf("Expr(%v) = %q, %d, want %q", e, text, errno, want)
		}
	}
	if taken < 1000 {
		t.Errorf("only %d are taken", taken)
	}
	long := make([]api.Node, 1<<20)
	for i := range long {
		long[i] = api.Node{Op: api.OpName, Name: "a"}
		if i > 0 && i < len(long)-1 {
			long[i] = api.Node{Op: api.OpNeg}
		}
	}
	checkRefused(t, long)
	checkRefused(t, long[:len(long)-1])
}

// P4.1: places don't matter, and the list is left as it was, what lies behind it too.
func TestExprLeavesItsArgument(t *testing.T) {
	whole := over(api.OpMul, over(api.OpAdd, leaf("a"), leaf("b")), over(api.OpNot, leaf("c")))
	whole = append(whole, api.Node{Op: 77, Val: 8, Name: "spare"})
	for i := range whole {
		whole[i].At = api.Pos{Line: -i, Col: i * i}
	}
	before := slices.Clone(whole)
	for range 2 {
		checkExpr(t, whole[:len(whole)-1], "(a + b) * (not c)")
	}
	if !reflect.DeepEqual(whole, before) {
		t.Errorf("the list has become %v", whole)
	}
}
