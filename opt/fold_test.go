package opt_test

import (
	"fmt"
	"math/rand"
	"slices"
	"testing"

	"junction/api"
	"junction/opt"
)

// foldCase is a text and what its folded text is.
type foldCase struct{ in, out string }

func checkFolds(t *testing.T, k api.Known, list []foldCase) {
	t.Helper()
	for _, c := range list {
		want := negatives(exprOf(t, c.out))
		if got, e := opt.Fold(exprOf(t, c.in), k); e != api.OK || !slices.Equal(got, want) {
			t.Errorf("Fold(%s) with %s: %s, %d, want %s", c.in, toldKnown(k), told(got), e, told(want))
		}
	}
}

// P9.2: the chapter's examples.
func TestFoldExamples(t *testing.T) {
	checkFolds(t, api.Known{}, []foldCase{
		{"2 + 3 * x", "x * 3 + 2"}, {"x - 5 + 7", "x + 2"}, {"x + 2147483647 + 1", "x + least"}, {"not (x < 3)", "x >= 3"}, {"3 < x", "x > 3"},
		{"elapsed < 0", "false"}, {"elapsed >= 0 and d", "d"}, {"x * 0 + y / 0", "0"}, {"x % x", "0"}, {"x / x", "x / x"},
		{"min(elapsed % 10, 12)", "elapsed % 10"}, {"-x + y", "y - x"}, {"x - -y", "x + y"}, {"d == false", "d == false"}, {"d != true", "d == false"},
		{"(x < y) == false", "x >= y"}, {"x + 3 == 1", "x == -2"}, {"x < y or x >= y", "true"},
	})
	checkFolds(t, steady(4), []foldCase{{"green(g2) and x < y", "x < y"}})
	checkFolds(t, knowing(0, 4), []foldCase{{"min(x, y) + (x + 1)", "min(y, 4) + 5"}})
	minus := exprOf(t, "1 - x")
	if got, e := opt.Fold(minus, api.Known{}); e != api.OK || !slices.Equal(got, []api.Node{node(api.OpInt, 1), node(api.OpVar, 0), node(api.OpSub, 0)}) {
		t.Errorf("Fold(1 - x): %s, %d", told(got), e)
	}
}

// P9.2: leaves.
func TestFoldLeaves(t *testing.T) {
	checkFolds(t, api.Known{Green: 4}, []foldCase{
		{"x", "x"}, {"green(g2)", "green(g2)"}, {"red(g2)", "red(g2)"}, {"elapsed", "elapsed"}, {"t", "t"}, {"c", "c"}, {"d", "d"}, {"7", "7"}, {"true", "true"},
	})
	checkFolds(t, steady(5, 1, least), []foldCase{
		{"x", "x"}, {"y", "least"}, {"green(g0)", "true"}, {"green(g1)", "false"}, {"green(g2)", "true"}, {"red(g0)", "false"}, {"red(g1)", "true"}, {"red(g2)", "false"},
		{"elapsed", "elapsed"}, {"u", "u"}, {"b", "b"}, {"e", "e"},
	})
	// What counts for nothing: the word of a variable that is not known, the greens of what is not steady.
	k := api.Known{Green: ^uint64(0), Has: 2}
	k.Vals[0], k.Vals[1] = 9, 8
	checkFolds(t, k, []foldCase{{"x + y", "x + 8"}, {"green(g0) and d", "green(g0) and d"}})
	// The last of everything.
	k = steady(1<<63, 63, 5)
	for _, c := range []struct {
		in, out api.Node
	}{
		{node(api.OpVar, 63), node(api.OpInt, 5)}, {node(api.OpVar, 62), node(api.OpVar, 62)}, {node(api.OpGreen, 63), node(api.OpBool, 1)}, {node(api.OpRed, 63), node(api.OpBool, 0)}, {node(api.OpRed, 62), node(api.OpBool, 1)},
		{node(api.OpTimer, 63), node(api.OpTimer, 63)}, {node(api.OpCounter, 63), node(api.OpCounter, 63)}, {node(api.OpDet, 63), node(api.OpDet, 63)}, {node(api.OpInt, least), node(api.OpInt, least)},
	} {
		if got, e := opt.Fold([]api.Node{c.in}, k); e != api.OK || !slices.Equal(got, []api.Node{c.out}) {
			t.Errorf("Fold(%v): %v, %d", c.in, got, e)
		}
	}
}

// P9.2: rules 1 to 4.
func TestFoldOneOperand(t *testing.T) {
	checkFolds(t, api.Known{}, []foldCase{
		{"-5", "-5"}, {"- -5", "5"}, {"-least", "least"}, {"abs(least)", "least"}, {"not true", "false"}, {"abs(-7)", "7"},
		{"x * 0", "0"}, {"t / 2147483647 > 1", "false"}, {"not (t < 0)", "true"}, {"t % 1", "0"}, {"(d and false) == e", "e == false"},
		{"- -x", "x"}, {"- - -x", "-x"}, {"-(x + 1)", "-(x + 1)"},
		{"not not d", "d"}, {"not d", "not d"}, {"not (d and e)", "not (d and e)"},
		{"not (x == y)", "x != y"}, {"not (x != y)", "x == y"}, {"not (x < y)", "x >= y"}, {"not (x >= y)", "x < y"}, {"not (x > y)", "x <= y"}, {"not (x <= y)", "x > y"},
		{"not (d == e)", "d != e"}, {"not (d == false)", "d"}, {"not (d != false)", "not d"}, {"not (d != e)", "d == e"}, {"not (d == true)", "not d"},
		{"abs(t)", "t"}, {"abs(t % 5 - 1)", "abs(t % 5 + -1)"}, {"abs(t % 5)", "t % 5"}, {"abs(abs(x))", "abs(x)"}, {"abs(-x)", "abs(x)"}, {"abs(-(x % 5))", "abs(x % 5)"}, {"abs(-t)", "t"}, {"abs(x)", "abs(x)"},
	})
}

// P9.2: rules 5 and 6, of each operator.
func TestFoldPlaces(t *testing.T) {
	checkFolds(t, api.Known{}, []foldCase{
		{"3 + x", "x + 3"}, {"3 * x", "x * 3"}, {"min(3, x)", "min(x, 3)"}, {"max(3, x)", "max(x, 3)"}, {"3 == x", "x == 3"}, {"3 != x", "x != 3"}, {"true and d", "d"}, {"false or d", "d"},
		{"3 < x", "x > 3"}, {"3 <= x", "x >= 3"}, {"3 > x", "x < 3"}, {"3 >= x", "x <= 3"}, {"3 - x", "3 - x"}, {"3 / x", "3 / x"}, {"3 % x", "3 % x"},
		{"false == d", "d == false"}, {"true != d", "d == false"},
		{"x - x", "0"}, {"x % x", "0"}, {"x != x", "false"}, {"x < x", "false"}, {"x > x", "false"}, {"x == x", "true"}, {"x <= x", "true"}, {"x >= x", "true"}, {"d == d", "true"}, {"d != d", "false"},
		{"d and d", "d"}, {"d or d", "d"}, {"min(x, x)", "x"}, {"max(x, x)", "x"}, {"x + x", "x + x"}, {"x * x", "x * x"}, {"x / x", "x / x"},
		{"(x + 1) - (x + 1)", "0"}, {"(1 + x) - (x + 1)", "0"}, {"(x + y) - (y + x)", "x + y - (y + x)"}, {"min(x - y, x - y)", "x - y"}, {"(x - y) - (x + y)", "x - y - (x + y)"}, {"t - u", "t - u"}, {"d == e", "d == e"},
	})
}

// P9.2: rules 7 to 13.
func TestFoldNumbers(t *testing.T) {
	checkFolds(t, api.Known{}, []foldCase{
		{"x - 5", "x + -5"}, {"x - least", "x + least"}, {"x - 0", "x"}, {"x - 5 - 6", "x + -11"}, {"x + 5 - 5", "x"},
		{"x + 0", "x"}, {"x + 1 + 2", "x + 3"}, {"1 + (x + 2)", "x + 3"}, {"x + 2147483647 + 2", "x + -2147483647"}, {"x + (1 + y)", "x + (y + 1)"}, {"(x + 1) + (y + 2)", "x + 1 + (y + 2)"},
		{"x * 1", "x"}, {"x * 3 * 5", "x * 15"}, {"3 * (5 * x)", "x * 15"}, {"x * 65536 * 65536", "0"}, {"x * 65536 * 32768", "x * least"}, {"x * -1", "x * -1"}, {"x * -1 * -1", "x"}, {"x * y * 3", "x * y * 3"}, {"(x + 3) * 3", "(x + 3) * 3"},
		{"x / 1", "x"}, {"x / -1", "x / -1"}, {"x / 2 / 2", "x / 2 / 2"}, {"x / 0", "0"},
		{"x % 1", "0"}, {"x % 0", "0"}, {"t % 10 % 10", "t % 10"}, {"t % 10 % 9", "t % 10 % 9"}, {"t % 10 % -10", "t % 10"}, {"t % 10 % -9", "t % 10 % -9"}, {"x % 10 % 20", "x % 10 % 20"}, {"t % least", "t"}, {"x % least", "x % least"}, {"t % 2147483647", "t % 2147483647"},
		{"min(t, -1)", "-1"}, {"min(t, 0)", "0"}, {"min(t, 1)", "min(t, 1)"}, {"min(t, 2147483647)", "t"}, {"min(t, 2147483646)", "min(t, 2147483646)"}, {"min(0 - t, u)", "0 - t"}, {"min(u, 0 - t)", "0 - t"},
		{"max(t, -1)", "t"}, {"max(t, 0)", "t"}, {"max(t, 1)", "max(t, 1)"}, {"max(t, 2147483647)", "2147483647"}, {"max(0 - t, u)", "u"}, {"max(u, 0 - t)", "u"}, {"max(x, y)", "max(x, y)"},
		{"min(min(x, 3), 7)", "min(x, 3)"}, {"min(min(x, 7), 3)", "min(x, 3)"}, {"max(max(x, 3), 7)", "max(x, 7)"}, {"max(max(x, 7), 3)", "max(x, 7)"}, {"min(7, min(9, min(x, 8)))", "min(x, 7)"}, {"max(min(x, 7), 3)", "max(min(x, 7), 3)"}, {"max(min(x, 3), 7)", "7"}, {"min(min(x, y), 3)", "min(min(x, y), 3)"},
	})
}

// P9.2: rules 14 and 15.
func TestFoldEqualities(t *testing.T) {
	checkFolds(t, api.Known{}, []foldCase{
		{"x + 3 == 5", "x == 2"}, {"x - 3 != 5", "x != 8"}, {"x + 2147483647 == -2", "x == 2147483647"}, {"5 == 3 + x", "x == 2"}, {"-x == 5", "x == -5"}, {"-x != least", "x != least"}, {"3 - -x == 5", "x == 2"}, {"-(x + 3) == 5", "x == -8"},
		{"t + 3 == 2", "false"}, {"t + 3 != 2", "true"}, {"x + 3 < 5", "x + 3 < 5"}, {"-x < 5", "-x < 5"}, {"x + y == 5", "x + y == 5"}, {"x * 3 == 6", "x * 3 == 6"}, {"x + 3 == y", "x + 3 == y"}, {"3 - x == 5", "3 - x == 5"},
		{"d == true", "d"}, {"d != false", "d"}, {"d != true", "d == false"}, {"d == false", "d == false"}, {"(not d) == false", "d"}, {"(not d) != true", "d"}, {"(not d) == true", "not d"},
		{"(x < y) == false", "x >= y"}, {"(x < y) != true", "x >= y"}, {"(x < y) == true", "x < y"}, {"(x < y) != false", "x < y"}, {"(d == e) == false", "d != e"}, {"(d == false) == false", "d"}, {"(d and e) == false", "(d and e) == false"}, {"(d == false) == true", "d == false"},
	})
}

// P9.2: rules 16 to 18.
func TestFoldOpposites(t *testing.T) {
	checkFolds(t, api.Known{}, []foldCase{
		{"x + -y", "x - y"}, {"-x + y", "y - x"}, {"-x + -y", "-x - y"}, {"x - -y", "x + y"}, {"-x - -y", "y - x"}, {"-x - y", "-x - y"}, {"-x + 3", "3 - x"}, {"3 + -x", "3 - x"}, {"-x - 3", "-3 - x"}, {"x + -x", "0"}, {"-x + x", "0"}, {"x - -x", "x + x"}, {"-x - x", "-x - x"},
		{"d and true", "d"}, {"d or false", "d"}, {"d and false", "false"}, {"d or true", "true"},
		{"d and not d", "false"}, {"not d and d", "false"}, {"d or not d", "true"}, {"not d or d", "true"}, {"d and not e", "d and not e"}, {"not d or e", "not d or e"},
		{"x < y and x >= y", "false"}, {"x >= y or x < y", "true"}, {"x > y and x <= y", "false"}, {"x <= y or x > y", "true"}, {"x == y and x != y", "false"}, {"x != y or x == y", "true"},
		{"x < y and y <= x", "x < y and y <= x"}, {"x < y and x > y", "x < y and x > y"}, {"x < 3 and x >= 4", "x < 3 and x >= 4"}, {"x < 3 or not (x < 3)", "true"}, {"3 > x and 3 <= x", "false"}, {"x < y and x < y", "x < y"}, {"x < t and y >= t", "x < t and y >= t"},
		{"(d and e) and not (d and e)", "false"}, {"not (d or e) or (d or e)", "true"}, {"d == false or d", "d == false or d"},
	})
}

// wrongExprs are lists that do not fit.
func wrongExprs() map[string][]api.Node {
	list := map[string][]api.Node{
		"nothing":              nil,
		"no tree":              {node(api.OpNeg, 0)},
		"two trees":            {node(api.OpVar, 0), node(api.OpVar, 1)},
		"a name":               {{Op: api.OpName, Name: "x"}},
		"a leaf with a name":   {{Op: api.OpVar, Name: "x"}},
		"a place":              {{Op: api.OpVar, At: api.Pos{Line: 1, Col: 1}}},
		"no truth of 2":        {node(api.OpBool, 2)},
		"elapsed 1":            {node(api.OpElapsed, 1)},
		"an operator with Val": {node(api.OpVar, 0), node(api.OpNeg, 1)},
		"not of a number":      over(api.OpNot, leaf(api.OpVar, 0)),
		"- of a truth":         over(api.OpNeg, leaf(api.OpDet, 0)),
		"mixed":                over(api.OpEq, leaf(api.OpVar, 0), leaf(api.OpDet, 0)),
		"truths in order":      over(api.OpLt, leaf(api.OpDet, 1), leaf(api.OpDet, 0)),
		"no operator":          {node(api.OpVar, 0), node(23, 0)},
		"no operator 11":       {node(11, 0)},
		"too long":             long(257),
		"too deep":             deep(65),
	}
	for _, op := range []int{api.OpVar, api.OpTimer, api.OpCounter, api.OpDet, api.OpGreen, api.OpRed} {
		list[signs[op]+" 64"], list[signs[op]+" -1"] = leaf(op, 64), leaf(op, -1)
	}
	return list
}

// long is a sum, or - of one, of that many nodes.
func long(nodes int) []api.Node {
	e := leaf(api.OpVar, 0)
	for len(e)+2 <= nodes {
		e = over(api.OpAdd, e, leaf(api.OpVar, int32(len(e)%64)))
	}
	if len(e) < nodes {
		e = over(api.OpNeg, e)
	}
	return e
}

// deep is that many calls in one another.
func deep(calls int) []api.Node {
	e := leaf(api.OpVar, 0)
	for i := range calls {
		e = over(api.OpMin, e, leaf(api.OpVar, int32(1+i%63)))
	}
	return e
}

// P9.1, P9.2: what does not fit is refused, and nothing is told beside.
func TestWrongExprs(t *testing.T) {
	for name, e := range wrongExprs() {
		for _, k := range []api.Known{{}, steady(4, 0, 7)} {
			if got, f := opt.Fold(e, k); len(got) != 0 || f != api.ErrExpr {
				t.Errorf("Fold of %s: %s, %d", name, told(got), f)
			}
			if lo, hi, f := opt.Range(e, k); lo != 0 || hi != 0 || f != api.ErrExpr {
				t.Errorf("Range of %s: %d, %d, %d", name, lo, hi, f)
			}
		}
	}
}

// P9.1, P9.2: what is at its limit is let in.
func TestExprsAtTheirLimits(t *testing.T) {
	for name, e := range map[string][]api.Node{"long": long(256), "long sum": long(255), "deep": deep(64)} {
		if got, f := opt.Fold(e, api.Known{}); f != api.OK || len(got) == 0 {
			t.Errorf("Fold of %s: %d nodes, %d", name, len(got), f)
		}
		if _, _, f := opt.Range(e, api.Known{}); f != api.OK {
			t.Errorf("Range of %s: %d", name, f)
		}
	}
	for _, e := range [][]api.Node{long(255), long(256), deep(64)} {
		if got, _ := opt.Fold(e, api.Known{}); !slices.Equal(got, e) {
			t.Errorf("Fold of what is folded, of %d nodes: %s", len(e), told(got))
		}
	}
	all := api.Known{Has: ^uint64(0)}
	if got, _ := opt.Fold(long(256), all); !slices.Equal(got, leaf(api.OpInt, 0)) {
		t.Errorf("Fold of a long sum of zeros: %s", told(got))
	}
}

// ruleNames are those that the second way counts.
func ruleNames() []string {
	names := []string{"1", "2", "3 not", "3 relation", "4 range", "4 abs", "4 neg", "7", "8 zero", "8 again", "9 one", "9 again", "10", "11", "12 first", "12 second", "13",
		"14 sum", "14 neg", "15 same", "15 unequal", "15 not", "15 relation", "16 first", "16 second", "16 minus", "17", "18 first", "18 second", "18 relations"}
	for _, sign := range []string{"+", "*", "min", "max", "==", "!=", "<", "<=", ">", ">=", "and", "or"} {
		names = append(names, "5 "+sign)
	}
	for _, sign := range []string{"-", "%", "!=", "<", ">", "==", "<=", ">=", "and", "or", "min", "max"} {
		names = append(names, "6 "+sign)
	}
	return names
}

// allUsed asks whether each of the rules has been used often enough for a run at random to tell anything of it.
func allUsed(t *testing.T, used map[string]int, times int, names ...string) {
	t.Helper()
	for _, name := range names {
		if used[name] < times {
			t.Errorf("rule %s: %d times alone", name, used[name])
		}
	}
}

// P9.1, P9.2: at random against the second way.
func TestFoldAtRandom(t *testing.T) {
	t.Parallel()
	r := rand.New(rand.NewSource(92))
	used := map[string]int{}
	for range 60000 {
		m := anyMaker(r)
		e, k := m.expr(1+r.Intn(2), 1+r.Intn(24)), m.known()
		checkAgainstModel(t, e, k, used)
	}
	allUsed(t, used, 30, ruleNames()...)
}

func checkAgainstModel(t *testing.T, e []api.Node, k api.Known, used map[string]int) {
	t.Helper()
	want := modelRange(e, k)
	if lo, hi, f := opt.Range(e, k); f != api.OK || int64(lo) != want[0] || int64(hi) != want[1] {
		t.Fatalf("Range(%s) with %s: %d to %d, %d, want %v", told(e), toldKnown(k), lo, hi, f, want)
	}
	folded := model{k, used}.fold(e)
	if got, f := opt.Fold(e, k); f != api.OK || !slices.Equal(got, folded) {
		t.Fatalf("Fold(%s) with %s: %s, %d, want %s", told(e), toldKnown(k), told(got), f, told(folded))
	}
}

// P9.1, P9.2: all expressions of up to five nodes over few leaves, against the second way.
func TestAllSmallExprs(t *testing.T) {
	t.Parallel()
	by := smallExprs(5)
	used, k, count := map[string]int{}, steady(1, 1, 3), 0
	for size, types := range by {
		for _, e := range slices.Concat(types[0], types[1]) {
			checkAgainstModel(t, e, k, used)
			if size < 5 {
				checkAgainstModel(t, e, api.Known{}, used)
			}
			count++
		}
	}
	if count < 20000 {
		t.Errorf("%d expressions alone", count)
	}
}

// smallExprs are numbers and truths by their sizes.
func smallExprs(most int) map[int][2][][]api.Node {
	numbers := [][]api.Node{leaf(api.OpInt, 0), leaf(api.OpInt, 1), leaf(api.OpInt, least), leaf(api.OpVar, 0), leaf(api.OpVar, 1), leaf(api.OpElapsed, 0)}
	truths := [][]api.Node{leaf(api.OpBool, 0), leaf(api.OpBool, 1), leaf(api.OpDet, 0), leaf(api.OpGreen, 0)}
	by := map[int][2][][]api.Node{1: {numbers, truths}}
	for size := 2; size <= most; size++ {
		var list [2][][]api.Node
		for _, e := range by[size-1][0] {
			list[0] = append(list[0], over(api.OpNeg, e), over(api.OpAbs, e))
		}
		for _, e := range by[size-1][1] {
			list[1] = append(list[1], over(api.OpNot, e))
		}
		for first := 1; first <= size-2; first++ {
			pairs(&list, by[first], by[size-1-first])
		}
		by[size] = list
	}
	return by
}

func pairs(list *[2][][]api.Node, a, b [2][][]api.Node) {
	for op := api.OpAdd; op <= api.OpOr; op++ {
		if signs[op] == "" {
			continue
		}
		for typ := range 2 {
			isNumbers := op < api.OpAnd
			if typ == 0 && !isNumbers || typ == 1 && isNumbers && op != api.OpEq && op != api.OpNe {
				continue
			}
			to := 1
			if op < api.OpEq {
				to = 0
			}
			for _, p := range a[typ] {
				for _, q := range b[typ] {
					list[to] = append(list[to], over(op, p, q))
				}
			}
		}
	}
}

// ExampleFold keeps the README's line true.
func ExampleFold() {
	e, _ := opt.Fold([]api.Node{node(api.OpInt, 3), node(api.OpVar, 0), node(api.OpLt, 0)}, api.Known{})
	fmt.Println(told(e))
	// Output: var0 3 >
}
