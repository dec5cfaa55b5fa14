package check_test

import (
	"slices"
	"strings"
	"testing"

	"junction/api"
	"junction/check"
)

// P5.2: the chapter's examples and more of their like; a @ stands where the fault is.
func TestTypeOf(t *testing.T) {
	list := []api.Symbol{{Name: "x", Kind: api.DeVar}, {Name: "x", Kind: api.DeDetector}, {Name: "k", Kind: api.DeConst}, {Name: "t", Kind: api.DeTimer}, {Name: "n", Kind: api.DeCounter}, {Name: "d", Kind: api.DeDetector}, {Name: "c", Kind: api.DeCond}, {Name: "g", Kind: api.DeGroup}, {Name: "s", Kind: api.DeStage}}
	for _, c := range []struct {
		text string
		typ  int
		code api.Errno
	}{
		{"x + 1", api.TyInt, api.OK},
		{"x @== true", 0, api.ErrType},
		{"@not x", 0, api.ErrType},
		{"@y", 0, api.ErrUnknown},
		{"(x < 3) == true", api.TyBool, api.OK},
		{"7", api.TyInt, api.OK},
		{"elapsed", api.TyInt, api.OK},
		{"true", api.TyBool, api.OK},
		{"false", api.TyBool, api.OK},
		{"x", api.TyInt, api.OK},
		{"k", api.TyInt, api.OK},
		{"t", api.TyInt, api.OK},
		{"n", api.TyInt, api.OK},
		{"d", api.TyBool, api.OK},
		{"c", api.TyBool, api.OK},
		{"@g", 0, api.ErrKind},
		{"@s", 0, api.ErrKind},
		{"green(g) or red(g)", api.TyBool, api.OK},
		{"@green(h)", 0, api.ErrUnknown},
		{"@red(h)", 0, api.ErrUnknown},
		{"@green(s)", 0, api.ErrKind},
		{"@red(x)", 0, api.ErrKind},
		{"green(g) and @red(d)", 0, api.ErrKind},
		// In the order of the nodes: each behind its operands, the first operand ahead of the second.
		{"@not 1 and q", 0, api.ErrType},
		{"@q and not 1", 0, api.ErrUnknown},
		{"1 @+ true + 2 < q", 0, api.ErrType},
		{"@max(d, 1)", 0, api.ErrType},
		{"min(@g, q)", 0, api.ErrKind},
		{"abs(@q) or 2", 0, api.ErrUnknown},
		{"-(d @* 2) or q", 0, api.ErrType},
		{"(d or c) == (x < 2)", api.TyBool, api.OK},
		{"d @!= x", 0, api.ErrType},
		{"x @!= d", 0, api.ErrType},
		{"x % 2 == k / n", api.TyBool, api.OK},
		{"not c == d", api.TyBool, api.OK},
		{"@not (x + 1)", 0, api.ErrType},
		{"@-c", 0, api.ErrType},
		{"@abs(c)", 0, api.ErrType},
		{"x @and d", 0, api.ErrType},
		{"d @or x", 0, api.ErrType},
		{"d @< c", 0, api.ErrType},
	} {
		text := c.text
		var where api.Pos
		if i := strings.Index(text, "@"); i >= 0 {
			where, text = at(1, i+1), text[:i]+text[i+1:]
		}
		typ, f := check.TypeOf(list, exprOf(t, text))
		if typ != c.typ || f != fault(c.code, where) {
			t.Errorf("%s: %d, %v", c.text, typ, f)
		}
	}
}

// operator is chapter 5's table: the types of the operands that an operator takes, and its own.
type operator struct {
	takes [][]int
	is    int
}

var allOperators = makeOperators()

func operators() map[int]operator { return allOperators }

func makeOperators() map[int]operator {
	const n, b = api.TyInt, api.TyBool
	all := map[int]operator{}
	for _, row := range []struct {
		ops   []int
		takes [][]int
		is    int
	}{
		{[]int{api.OpNeg, api.OpAbs}, [][]int{{n}}, n},
		{[]int{api.OpNot}, [][]int{{b}}, b},
		{[]int{api.OpAdd, api.OpSub, api.OpMul, api.OpDiv, api.OpRem, api.OpMin, api.OpMax}, [][]int{{n, n}}, n},
		{[]int{api.OpLt, api.OpLe, api.OpGt, api.OpGe}, [][]int{{n, n}}, b},
		{[]int{api.OpEq, api.OpNe}, [][]int{{n, n}, {b, b}}, b},
		{[]int{api.OpAnd, api.OpOr}, [][]int{{b, b}}, b},
	} {
		for _, op := range row.ops {
			all[op] = operator{row.takes, row.is}
		}
	}
	return all
}

// operandTypes are all lists of types of that length.
func operandTypes(count int) [][]int {
	if count == 1 {
		return [][]int{{api.TyInt}, {api.TyBool}}
	}
	return [][]int{{api.TyInt, api.TyInt}, {api.TyInt, api.TyBool}, {api.TyBool, api.TyInt}, {api.TyBool, api.TyBool}}
}

// P5.2, P5.5: each operator over operands of all types, by TypeOf and by SoundExpr.
func TestEachOperator(t *testing.T) {
	if len(operators()) != 18 {
		t.Fatalf("the test has %d operators", len(operators()))
	}
	for op, o := range operators() {
		for _, types := range operandTypes(len(o.takes[0])) {
			var e, bare []api.Node
			for i, typ := range types {
				leaf := api.Node{Op: api.OpElapsed}
				if typ == api.TyBool {
					leaf.Op = api.OpBool
				}
				bare = append(bare, leaf)
				leaf.At = at(2, i+1)
				e = append(e, leaf)
			}
			e, bare = append(e, api.Node{Op: op, At: at(5, 6)}), append(bare, api.Node{Op: op})
			taken := slices.ContainsFunc(o.takes, func(takes []int) bool { return slices.Equal(takes, types) })
			want, wantFault := o.is, api.Fault{}
			if !taken {
				want, wantFault = 0, fault(api.ErrType, at(5, 6))
			}
			if typ, f := check.TypeOf(nil, e); typ != want || f != wantFault {
				t.Errorf("Op %d over %v: %d, %v", op, types, typ, f)
			}
			for asked := -1; asked <= 4; asked++ {
				if got := check.SoundExpr(api.Typed{}, bare, asked); got != (taken && asked == o.is) {
					t.Errorf("Op %d over %v as %d: %v", op, types, asked, got)
				}
			}
		}
	}
}

// P5.2: symbols of all kinds, of those too that no declaration has; of several with one name the first one counts.
func TestTypeOfKinds(t *testing.T) {
	worth := map[int]int{api.DeConst: api.TyInt, api.DeVar: api.TyInt, api.DeTimer: api.TyInt, api.DeCounter: api.TyInt, api.DeDetector: api.TyBool, api.DeCond: api.TyBool}
	for kind := -3; kind <= 20; kind++ {
		for later := -1; later <= 11; later++ {
			list := []api.Symbol{{Name: "y", Kind: api.DeVar}, {Name: "x", Kind: kind, Ix: -5, At: at(-1, 9)}, {Name: "x", Kind: later}}
			typ, f := check.TypeOf(list, []api.Node{{Op: api.OpName, Name: "x", At: at(3, 4)}})
			want, wantFault := worth[kind], api.Fault{}
			if want == 0 {
				wantFault = fault(api.ErrKind, at(3, 4))
			}
			if typ != want || f != wantFault {
				t.Errorf("a symbol of kind %d (ahead of %d): %d, %v", kind, later, typ, f)
			}
			for _, op := range []int{api.OpGreen, api.OpRed} {
				typ, f := check.TypeOf(list, []api.Node{{Op: op, Name: "x", At: at(3, 4)}})
				want, wantFault := api.TyBool, api.Fault{}
				if kind != api.DeGroup {
					want, wantFault = 0, fault(api.ErrKind, at(3, 4))
				}
				if typ != want || f != wantFault {
					t.Errorf("Op %d of a symbol of kind %d (ahead of %d): %d, %v", op, kind, later, typ, f)
				}
			}
		}
	}
}

// P5.2: what is not well formed is ErrTree, at the zero place, whatever else is wrong.
func TestTypeOfNotFormed(t *testing.T) {
	list := []api.Symbol{{Name: "x", Kind: api.DeVar}}
	named := func(op int, name string) api.Node { return api.Node{Op: op, Name: name, At: at(4, 4)} }
	deep := func(n int) []api.Node {
		return append(nodes(api.OpElapsed), slices.Repeat(nodes(api.OpNeg), n)...)
	}
	long := func(n int) []api.Node {
		return append(nodes(api.OpElapsed), slices.Repeat(nodes(api.OpElapsed, api.OpAdd), n)...)
	}
	for i, c := range []struct {
		e    []api.Node
		typ  int
		code api.Errno
	}{
		{nil, 0, api.ErrTree},
		{[]api.Node{}, 0, api.ErrTree},
		{nodes(api.OpNeg), 0, api.ErrTree},
		{nodes(api.OpElapsed, api.OpElapsed), 0, api.ErrTree},
		{nodes(api.OpVar), 0, api.ErrTree},
		{nodes(api.OpTimer), 0, api.ErrTree},
		{nodes(api.OpCounter), 0, api.ErrTree},
		{nodes(api.OpDet), 0, api.ErrTree},
		{nodes(0), 0, api.ErrTree},
		{nodes(99), 0, api.ErrTree},
		{[]api.Node{node(api.OpInt, -1)}, 0, api.ErrTree},
		{[]api.Node{node(api.OpBool, 2)}, 0, api.ErrTree},
		{[]api.Node{named(api.OpName, "min")}, 0, api.ErrTree},
		{[]api.Node{named(api.OpName, "q"), named(api.OpName, "")}, 0, api.ErrTree},
		{[]api.Node{named(api.OpName, "q"), node(api.OpBool, 2), node(api.OpAdd)}, 0, api.ErrTree},
		{deep(64), api.TyInt, api.OK},
		{deep(65), 0, api.ErrTree},
		{long(127), api.TyInt, api.OK},
		{long(128), 0, api.ErrTree},
	} {
		if typ, f := check.TypeOf(list, c.e); typ != c.typ || f != fault(c.code, at(0, 0)) {
			t.Errorf("row %d: %d, %v", i, typ, f)
		}
	}
}
