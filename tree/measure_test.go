package tree_test

import (
	"math"
	"math/rand"
	"slices"
	"strings"
	"testing"

	"junction/api"
	"junction/tree"
)

func ops(list ...int) []api.Node {
	var e []api.Node
	for _, op := range list {
		e = append(e, api.Node{Op: op})
	}
	return e
}

// isTree tells, from the left, whether a list is the tree of one expression.
func isTree(e []api.Node) bool {
	have := 0
	for _, n := range e {
		k := operands(n.Op)
		if k < 0 || k > have {
			return false
		}
		have += 1 - k
	}
	return have == 1
}

// modelSpan is Span by the words of its promise.
func modelSpan(e []api.Node, i int) int {
	if i < 0 || i >= len(e) {
		return -1
	}
	for j := i; j >= 0; j-- {
		if isTree(e[j : i+1]) {
			return j
		}
	}
	return -1
}

// P3.4
func TestSpan(t *testing.T) {
	for _, c := range []struct {
		e    []api.Node
		i, j int
	}{
		{ops(3, 3, 30, 3), 2, 0}, {ops(3, 3, 30, 3), 3, 3}, {ops(3, 3, 30, 3), 1, 1}, {ops(3, 3, 30, 3), 0, 0}, {ops(3, 3, 30, 3), 4, -1}, {ops(3, 3, 30, 3), -1, -1},
		{ops(3, 30), 1, -1}, {ops(3, 20, 3, 30), 3, 0}, {ops(3, 20, 3, 30), 1, 0}, {ops(20), 0, -1}, {ops(30), 0, -1},
		{nil, 0, -1}, {nil, -1, -1}, {[]api.Node{}, 0, -1}, {ops(3), math.MaxInt, -1}, {ops(3), math.MinInt, -1}, {ops(3), 1, -1},
		{ops(3, 11, 30), 2, -1}, {ops(0, 3), 1, 1}, {ops(11, 3, 20), 2, 1}, {ops(3, 37), 1, -1}, {ops(3, 11), 1, -1}, {ops(3, 11), 0, 0},
		{[]api.Node{{Op: api.OpInt, Val: -9, Name: "min", At: at(-1, -1)}, {Op: api.OpNeg, Val: 7, Name: "x"}}, 1, 0},
	} {
		if j := tree.Span(c.e, c.i); j != c.j {
			t.Errorf("Span(%v, %d) = %d, want %d", c.e, c.i, j, c.j)
		}
	}
}

// P3.4: how many operands each Op has, and which are none.
func TestSpanOfEachOp(t *testing.T) {
	list := []int{math.MinInt, -1 << 32, math.MaxInt, 1 << 32, 1<<32 + 3, 1<<32 + 30, 256 + 3, 256 + 30}
	for op := -300; op <= 300; op++ {
		list = append(list, op)
	}
	for _, op := range list {
		for ahead := range 4 {
			e := append(ops(slices.Repeat([]int{api.OpElapsed}, ahead)...), api.Node{Op: op})
			if j, want := tree.Span(e, ahead), modelSpan(e, ahead); j != want {
				t.Errorf("Span of Op %d behind %d leaves is %d, want %d", op, ahead, j, want)
			}
		}
	}
}

// P3.4, P3.5: all short lists: Span at each place, and whether a list is one expression.
func TestSpanOfShortLists(t *testing.T) {
	var try func(e []api.Node)
	try = func(e []api.Node) {
		for i := -1; i <= len(e); i++ {
			if j, want := tree.Span(e, i), modelSpan(e, i); j != want {
				t.Fatalf("Span(%v, %d) = %d, want %d", e, i, j, want)
			}
		}
		if nest := tree.Nest(e); (nest >= 0) != isTree(e) || nest < -1 {
			t.Fatalf("Nest(%v) = %d", e, nest)
		}
		if len(e) < 6 {
			for _, op := range []int{api.OpDet, api.OpAbs, api.OpMin, 0, api.OpEq} {
				try(append(e[:len(e):len(e)], api.Node{Op: op}))
			}
		}
	}
	try(nil)
}

// shortest writes an expression with just the brackets that it needs.
func shortest(e []api.Node) string {
	w := newWriter(rand.New(rand.NewSource(0)))
	w.extra, w.tight = false, true
	w.expr(e)
	return w.text.String()
}

// P3.5
func TestNest(t *testing.T) {
	for src, want := range map[string]int{
		"a": 0, "green(a)": 0, "elapsed": 0, "a + b + c": 0, "a - (b - c)": 1, "(a - b) - c": 0, "-(a + b)": 2, "- -a": 2, "not (a or b)": 2, "not (a == b)": 1, "abs(min(a, -b))": 3, "(a == b) == c": 1, "a == (b == c)": 1, "a * (b * c)": 1, "(a * b) * c": 0, "(a + b) * -c": 1, "(a or b) and c": 1, "a and (b or c)": 1, "a and (b and c)": 1, "(a and b) and c": 0, "a or (b and c)": 0, "a or (b or c)": 1, "(a or b) or c": 0, "(not a) + 1": 2, "min(a or b, (c))": 1, "max(a, b or c)": 1, "-(-a * b)": 3, "not not a": 2, "not (a and b)": 2, "(not a) and b": 1, "(not a) == b": 2, "a < -b": 1, "a < (not b)": 2, "a + (b == c)": 1, "(a < b) + c": 1, "a + b * c": 0, "(a + b) % c": 1, "a / (b % c)": 1, "a * (b + c)": 1, "-a * b": 1, "a * -b": 1, "-(a < b)": 2, "-(not a)": 3, "- - -a": 3, "-abs(a)": 2, "abs(-a)": 2, "abs((a or b) and c)": 2, "not -a": 2, "(a or b) == (c and (d or e))": 2, "(a - (b - c)) - (d - (e - (f - g)))": 3,
	} {
		e, f := tree.ParseExpr(src)
		if n := tree.Nest(e); f != (api.Fault{}) || n != want {
			t.Errorf("Nest of %q is %d (%v), want %d", src, n, f, want)
		}
	}
	for _, e := range [][]api.Node{nil, {}, ops(3, 3), ops(30), ops(3, 30), ops(3, 3, 3, 30), ops(11), ops(3, 11), ops(3, 0, 30), ops(0, 3), ops(20, 3)} {
		if n := tree.Nest(e); n != -1 {
			t.Errorf("Nest(%v) = %d, want -1", e, n)
		}
	}
}

// P3.5: of every Op below every other, at each side; the text that the tables ask for is read as that very tree, and what is open in it is counted token by token.
func TestNestOfEachPair(t *testing.T) {
	all := slices.Concat(oneOps, twoOps)
	a := api.Node{Op: api.OpName, Name: "a"}
	over := func(op int, first, second []api.Node) []api.Node {
		if operands(op) == 1 {
			return append(slices.Clone(first), api.Node{Op: op})
		}
		return append(slices.Concat(first, second), api.Node{Op: op})
	}
	leaf := []api.Node{a}
	for _, op := range all {
		for _, below := range all {
			under := over(below, leaf, leaf)
			for _, e := range [][]api.Node{over(op, under, leaf), over(op, leaf, under), over(op, under, under)} {
				checkNest(t, e)
			}
		}
	}
}

func checkNest(t *testing.T, e []api.Node) {
	t.Helper()
	src := shortest(e)
	want := modelNest(src)
	if n := tree.Nest(e); n != want {
		t.Fatalf("Nest of %q is %d, want %d", src, n, want)
	}
	if want <= api.MaxDepth && len(e) <= api.MaxNodes {
		back, f := tree.ParseExpr(src)
		if f != (api.Fault{}) || bareText(back) != bareText(e) {
			t.Fatalf("%q is read as %v, %v, want %v", src, back, f, e)
		}
	}
}

// P3.5: expressions at random.
func TestNestAtRandom(t *testing.T) {
	r := rand.New(rand.NewSource(35))
	for range 5000 {
		checkNest(t, someExpr(r, 1+r.Intn(40)))
	}
	for range 20 {
		checkNest(t, someExpr(r, 1000))
	}
}

// P3.5: the Ops that only a typed plan has are leaves, and places, values and names are not looked at.
func TestNestLooksAtOpsAlone(t *testing.T) {
	for op := 1; op <= 10; op++ {
		e := []api.Node{{Op: op, Val: -1, Name: "min", At: at(-3, 4)}, {Op: api.OpNot, Val: 9}, {Op: op}, {Op: api.OpEq, Name: "?"}}
		if n := tree.Nest(e); n != 2 {
			t.Errorf("Op %d: %d", op, n)
		}
	}
}

// P3.5, P3.10: lists that are far longer and deeper than a text's.
func TestMeasuresOfLongLists(t *testing.T) {
	const long = 1 << 17
	one := func(op int) []api.Node { return append(ops(3), slices.Repeat(ops(op), long)...) }
	left := append(ops(3), slices.Repeat(ops(3, 31), long)...)
	right := append(slices.Repeat(ops(3), long+1), slices.Repeat(ops(31), long)...)
	for i, c := range []struct {
		e    []api.Node
		nest int
	}{{one(api.OpNeg), long}, {one(api.OpAbs), long}, {one(api.OpNot), long}, {left, 0}, {right, long - 1}, {slices.Repeat(ops(3), long), -1}, {slices.Repeat(ops(31), long), -1}, {append(right, left...), -1}} {
		if n := tree.Nest(c.e); n != c.nest {
			t.Errorf("list %d: nest %d, want %d", i, n, c.nest)
		}
		if j := tree.Span(c.e, len(c.e)-1); (j == 0) != (c.nest >= 0) {
			t.Errorf("list %d: span %d", i, j)
		}
		if tree.FormedExpr(c.e) {
			t.Errorf("list %d is well formed", i)
		}
	}
	if n := tree.Nest(append(slices.Repeat(append(ops(3, 20), ops(21)...), 1), ops(3, 31)...)); n != 3 {
		t.Errorf("nest %d", n)
	}
	if n := modelNest("(not -a) - a"); n != 3 || strings.Contains(shortest(ops(4, 4, 31)), "(") {
		t.Errorf("the model counts %d", n)
	}
}
