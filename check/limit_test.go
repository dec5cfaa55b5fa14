package check_test

import (
	"slices"
	"strings"
	"testing"

	"junction/api"
	"junction/check"
)

// truths is an expression of that many nodes (an odd number), the truth of which is ors.
func truths(count int) []api.Node {
	return append(nodes(api.OpBool), slices.Repeat(nodes(api.OpBool, api.OpOr), count/2)...)
}

// placed gives each node a place of its own.
func placed(e []api.Node, line int) []api.Node {
	e = slices.Clone(e)
	for i := range e {
		e[i].At = at(line, i+1)
	}
	return e
}

// staged is a plan with things of all kinds and the stages.
func staged(stages ...api.Stage) api.Plan {
	p := api.Plan{Name: "p", Decls: []api.Decl{{Kind: api.DeTimer, Name: "t"}, {Kind: api.DeVar, Name: "v"}, {Kind: api.DeStart, Name: letters(0)}}}
	for i, s := range stages {
		p.Decls = append(p.Decls, api.Decl{Kind: api.DeStage, Name: letters(i), Stage: s})
	}
	return p
}

// runs are so many statements, with places from the first one's line on.
func runs(count, line int) []api.Stmt {
	var list []api.Stmt
	for i := range count {
		list = append(list, api.Stmt{Kind: api.StRun, Name: "t", At: at(line+i, 2)})
	}
	return list
}

// ifs are so many ifs one behind the other, each of three statements.
func ifs(count, line int) []api.Stmt {
	var list []api.Stmt
	for i := range count {
		list = append(list, api.Stmt{Kind: api.StIf, Expr: nodes(api.OpBool), At: at(line+3*i, 2)}, api.Stmt{Kind: api.StElse, At: at(line+3*i+1, 2)}, api.Stmt{Kind: api.StEnd, At: at(line+3*i+2, 2)})
	}
	return list
}

// asks asks for what Resolve answers of a plan: a fault, or none.
func asks(t *testing.T, what string, p api.Plan, want api.Fault) api.Typed {
	t.Helper()
	x, f := check.Resolve(p)
	if f != want || want != (api.Fault{}) && !same(x, api.Typed{}) {
		t.Errorf("%s: %v, want %v", what, f, want)
	}
	if f == (api.Fault{}) && !check.Sound(x) {
		t.Errorf("%s: not sound", what)
	}
	return x
}

// P5.3, P5.4, G8: statements of all stages.
func TestManyStatements(t *testing.T) {
	none := api.Fault{}
	asks(t, "4096 in one block", staged(api.Stage{Enter: runs(4096, 1)}), none)
	asks(t, "4097 in one block", staged(api.Stage{Enter: runs(4097, 1)}), fault(api.ErrMany, at(4097, 2)))
	asks(t, "4096 in two stages", staged(api.Stage{Enter: runs(2000, 1), During: runs(1000, 2001), Leave: runs(1000, 3001)}, api.Stage{During: runs(96, 4001)}), none)
	asks(t, "the 4097th in another stage", staged(api.Stage{Enter: runs(2000, 1), During: runs(1000, 2001), Leave: runs(1000, 3001)}, api.Stage{During: runs(96, 4001), Leave: runs(2, 4097)}), fault(api.ErrMany, at(4097, 2)))
	asks(t, "else and end count", staged(api.Stage{Enter: ifs(1365, 1)}, api.Stage{Enter: runs(1, 4096)}), none)
	asks(t, "an end is too much", staged(api.Stage{Enter: runs(4094, 1)}, api.Stage{Enter: ifs(1, 4095)}), fault(api.ErrMany, at(4097, 2)))
	asks(t, "an else is too much", staged(api.Stage{Enter: runs(4095, 1)}, api.Stage{Enter: ifs(1, 4096)}), fault(api.ErrMany, at(4097, 2)))
	asks(t, "an if is too much", staged(api.Stage{Enter: runs(4096, 1)}, api.Stage{Enter: ifs(1, 4097)}), fault(api.ErrMany, at(4097, 2)))
	// ErrMany is looked for ahead of the statement's name and expression, and behind the faults of those above it.
	wrong := api.Stmt{Kind: api.StSet, Name: "q", Expr: nodes(api.OpBool), At: at(7, 7)}
	asks(t, "a wrong 4097th", staged(api.Stage{Enter: runs(4096, 1), Leave: []api.Stmt{wrong}}), fault(api.ErrMany, at(7, 7)))
	asks(t, "a wrong 4096th", staged(api.Stage{Enter: append(runs(4095, 1), wrong), Leave: runs(1, 9)}), fault(api.ErrUnknown, at(7, 7)))
	asks(t, "a wrong next behind", staged(api.Stage{Enter: runs(4096, 1), Nexts: []api.Next{{To: "q", When: nodes(api.OpBool), At: at(5, 5)}}}), fault(api.ErrUnknown, at(5, 5)))
}

// ways are so many nexts to a stage, with places from the first one's line on.
func ways(count, line int, to string) []api.Next {
	var list []api.Next
	for i := range count {
		list = append(list, api.Next{To: to, When: nodes(api.OpBool), At: at(line+i, 3)})
	}
	return list
}

// P5.3, P5.4, G8: nexts of all stages.
func TestManyNexts(t *testing.T) {
	none := api.Fault{}
	a, b := letters(0), letters(1)
	asks(t, "4096 of one stage", staged(api.Stage{Nexts: ways(4096, 1, b)}, api.Stage{}), none)
	asks(t, "4097 of one stage", staged(api.Stage{Nexts: ways(4097, 1, b)}, api.Stage{}), fault(api.ErrMany, at(4097, 3)))
	asks(t, "4096 of two stages", staged(api.Stage{Nexts: ways(4000, 1, b)}, api.Stage{Nexts: ways(96, 4001, a)}), none)
	asks(t, "4098 of two stages", staged(api.Stage{Nexts: ways(4000, 1, b)}, api.Stage{Nexts: ways(98, 4001, a)}), fault(api.ErrMany, at(4097, 3)))
	wrong := []api.Next{{To: "q", When: nodes(api.OpInt), At: at(7, 7)}}
	asks(t, "a wrong 4097th", staged(api.Stage{Nexts: ways(4096, 1, b)}, api.Stage{Nexts: wrong}), fault(api.ErrMany, at(7, 7)))
	asks(t, "a wrong 4096th", staged(api.Stage{Nexts: ways(4095, 1, b)}, api.Stage{Nexts: wrong}), fault(api.ErrUnknown, at(7, 7)))
	// Statements and nexts are counted apart.
	asks(t, "as many of both", staged(api.Stage{Enter: runs(4096, 1), Nexts: ways(4096, 1, b)}, api.Stage{}), none)
}

// P5.3, P5.4, G8: the nodes of all expressions of all stages.
func TestManyNodes(t *testing.T) {
	none := api.Fault{}
	b := letters(1)
	next := func(count, line int) api.Next {
		return api.Next{To: b, When: placed(truths(count), line), At: at(line, 200)}
	}
	// 64 times 255 nodes and 64 of one: 16384.
	var nexts []api.Next
	for i := range 64 {
		nexts = append(nexts, next(255, i), next(1, 100+i))
	}
	asks(t, "16384", staged(api.Stage{Nexts: nexts}, api.Stage{}), none)
	asks(t, "16385", staged(api.Stage{Nexts: append(slices.Clone(nexts), next(1, 999))}, api.Stage{}), fault(api.ErrSize, at(999, 1)))
	longer := slices.Clone(nexts)
	longer[127] = next(5, 888)
	asks(t, "16388", staged(api.Stage{Nexts: longer}, api.Stage{}), fault(api.ErrSize, at(888, 5)))
	// Statements' nodes count with them, over all stages.
	sets := []api.Stmt{{Kind: api.StSet, Name: "v", Expr: placed(nodes(api.OpElapsed), 777), At: at(3, 3)}, {Kind: api.StIf, Expr: placed(truths(3), 778)}, {Kind: api.StEnd}}
	asks(t, "statements ahead", staged(api.Stage{Enter: sets, Nexts: nexts}, api.Stage{}), fault(api.ErrSize, at(63, 255)))
	asks(t, "a statement behind", staged(api.Stage{Nexts: nexts}, api.Stage{Leave: sets}), fault(api.ErrSize, at(777, 1)))
	asks(t, "statements that just fit", staged(api.Stage{Enter: sets, Nexts: nexts[:124]}, api.Stage{}), none)
	// An expression's own type is looked at ahead of the sum.
	asks(t, "a wrong one that is too much", staged(api.Stage{Nexts: append(slices.Clone(nexts), api.Next{To: b, When: placed(nodes(api.OpElapsed), 666)})}, api.Stage{}), fault(api.ErrType, at(666, 1)))
	// Conditions are counted where they are put in, and there alone.
	p := staged(api.Stage{Nexts: nexts}, api.Stage{})
	var conds []api.Decl
	for i := range 70 {
		conds = append(conds, api.Decl{Kind: api.DeCond, Name: "c" + letters(i), Expr: truths(255)})
	}
	p.Decls = append(conds, p.Decls...)
	asks(t, "conditions that nothing names", p, none)
	var named []api.Next
	for i := range 64 {
		named = append(named, api.Next{To: b, When: []api.Node{{Op: api.OpName, Name: "c" + letters(i), At: at(i, 4)}}}, next(1, 100+i))
	}
	p = staged(api.Stage{Nexts: named}, api.Stage{})
	p.Decls = append(slices.Clone(conds), p.Decls...)
	asks(t, "16384 put in", p, none)
	p = staged(api.Stage{Nexts: named}, api.Stage{Leave: sets})
	p.Decls = append(slices.Clone(conds), p.Decls...)
	asks(t, "16385 put in", p, fault(api.ErrSize, at(777, 1)))
}

// P5.3, P5.4: an expression's nodes with all put in.
func TestNodesPutIn(t *testing.T) {
	const ahead = "const k = 3; const m = -3; detector d; cond a = d or d; "
	sum := func(name string, count int) string { return strings.Repeat(name+" + ", count-1) + name }
	or := func(name string, count int) string { return strings.Repeat(name+" or ", count-1) + name }
	// 128 numbers and 127 signs are 255 nodes; one below 0 adds a node.
	taken(t, ahead+"start s; stage s { green; } cond c = "+sum("k", 126)+" > m;")
	refused(t, ahead+"start s; stage s { green; } cond c = "+sum("k", 125)+" + m + m @> m;", api.ErrSize)
	taken(t, ahead+"start s; stage s { green; } cond c = "+sum("k", 125)+" + m > m;")
	// Each a is three nodes: 64 of them and 63 signs are 255.
	taken(t, ahead+"start s; stage s { green; } cond c = "+or("a", 64)+";")
	taken(t, ahead+"start s; stage s { green; } cond c = not("+or("a", 64)+");")
	refused(t, ahead+"start s; stage s { green; } cond c = @not not("+or("a", 64)+");", api.ErrSize)
	refused(t, ahead+"start s; stage s { green; } cond c = "+or("a", 64)+" @or d;", api.ErrSize)
	// A condition that is named by conditions grows from one to the next.
	refused(t, "detector d; cond a = d or d or d; cond b = a or a or a or a; cond c = b or b or b or b; cond e = c or c; cond f = e @or c; start s;", api.ErrSize)
	// In statements and nexts.
	const stage = ahead + "var v = 0; start s; stage s { green; "
	refused(t, stage+"enter { v = "+sum("m", 85)+" @+ m; } }", api.ErrSize)
	taken(t, stage+"enter { v = "+sum("m", 85)+" + 1; } }")
	refused(t, stage+"during { if "+or("a", 64)+" @or a { } } }", api.ErrSize)
	refused(t, stage+"next u when "+or("a", 64)+" @or a; } stage u { green; }", api.ErrSize)
	// All that is wrong in it, and its type, are told ahead of its size.
	refused(t, ahead+"cond c = "+or("a", 100)+" or @q;", api.ErrUnknown)
	refused(t, ahead+"cond c = "+or("a", 100)+" @or 1;", api.ErrType)
	refused(t, ahead+"cond c = "+sum("m", 99)+" @+ m;", api.ErrType)
}

// P5.3, P5.4: an expression's nest with all put in.
func TestNestPutIn(t *testing.T) {
	const rest = " start s; stage s { green; }"
	not := func(count int) string { return strings.Repeat("not ", count) }
	neg := func(count int) string { return strings.Repeat("-", count) }
	taken(t, "detector d; cond a = "+not(30)+"d; cond b = "+not(34)+"a;"+rest)
	refused(t, "detector d; cond a = "+not(30)+"d; cond b = @"+not(35)+"a;"+rest, api.ErrSize)
	taken(t, "detector d; cond a = "+not(64)+"d; cond b = a and a;"+rest)
	refused(t, "detector d; cond a = "+not(64)+"d; cond b = a and a; cond c = a @== a;"+rest, api.ErrSize)
	// Brackets that were not written: of a sum under a product, of a condition's or under an and.
	refused(t, "detector d; cond a = d or "+not(63)+"d; cond b = a and a; cond c = @not (a and a);"+rest, api.ErrSize)
	taken(t, "detector d; cond a = d or "+not(63)+"d; cond b = a and a;"+rest)
	// A constant below 0 has a sign.
	taken(t, "const k = -1; var v = 0; start s; stage s { green; enter { v = "+neg(63)+"k; } }")
	refused(t, "const k = -1; var v = 0; start s; stage s { green; enter { v = @"+neg(64)+"k; } }", api.ErrSize)
	taken(t, "const k = 1; var v = 0; start s; stage s { green; enter { v = "+neg(64)+"k; } }")
	taken(t, "const k = -1; const o = 0; var v = 0; start s; stage s { green; enter { v = "+neg(64)+"o; } }")
	refused(t, "detector d; cond a = "+not(64)+"d; start s; stage s { green; next t when @not a; } stage t { green; }", api.ErrSize)
}
