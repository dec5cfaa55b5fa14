package tree_test

import (
	"math"
	"math/rand"
	"slices"
	"strings"
	"testing"

	"junction/api"
	"junction/tree"
)

// words that are names, and some that are none.
var (
	goodNames = []string{"a", "Min", "x_1", "h", strings.Repeat("N", 32)}
	badNames  = []string{"", "min", "plan", "1", "a b", " a", "a ", "_a", "a-b", "==", "a\n", "a#", "\xc3\xa4", "0x1", strings.Repeat("N", 33), strings.Repeat("N", 1<<17)}
)

// isNodeOfText tells by the words of P3.6 whether that may be a node of a text.
func isNodeOfText(n api.Node) bool {
	isName := slices.Contains(goodNames, n.Name)
	switch n.Op {
	case 1:
		return n.Val >= 0 && n.Name == ""
	case 2:
		return n.Val >= 0 && n.Val < 2 && n.Name == ""
	case 3, 5, 6:
		return n.Val == 0 && isName
	}
	return n.Val == 0 && n.Name == "" && (n.Op == 4 || operands(n.Op) > 0)
}

// P3.6: each Op with each value and each name, with the operands that it has.
func TestFormedExprOfEachNode(t *testing.T) {
	taken := 0
	for op := -20; op <= 70; op++ {
		for _, val := range []int32{math.MinInt32, -1, 0, 1, 2, math.MaxInt32} {
			for _, name := range slices.Concat(goodNames, badNames) {
				n := api.Node{Op: op, Val: val, Name: name, At: at(int(val), -7)}
				e := append(ops(slices.Repeat([]int{api.OpElapsed}, max(0, operands(op)))...), n)
				want := isNodeOfText(n)
				if got := tree.FormedExpr(e); got != want {
					t.Errorf("FormedExpr(%+v) = %v", e, got)
				}
				// The same node as an operand, where it can be one.
				if operands(op) == 0 {
					if got := tree.FormedExpr([]api.Node{n, {Op: api.OpElapsed}, {Op: api.OpAdd}}); got != want {
						t.Errorf("FormedExpr of %+v + elapsed = %v", n, got)
					}
				}
				if want {
					taken++
				}
			}
		}
	}
	if taken != 4+2+1+3*len(goodNames)+3+15 {
		t.Errorf("%d nodes are taken", taken)
	}
}

// P3.6: the limits, and lists that are no expression.
func TestFormedExprLimits(t *testing.T) {
	sum := func(n int) []api.Node { return append(ops(4), slices.Repeat(ops(4, api.OpAdd), n)...) }
	rise := func(op, n int) []api.Node { return append(ops(4), slices.Repeat(ops(op), n)...) }
	right := func(n int) []api.Node {
		return append(slices.Repeat(ops(4), n+1), slices.Repeat(ops(api.OpSub), n)...)
	}
	for i, c := range []struct {
		e    []api.Node
		want bool
	}{
		{sum(127), true}, {append(sum(127), ops(20)...), true}, {append(sum(127), ops(20, 20)...), false}, {sum(128), false}, {sum(100000), false},
		{rise(20, 64), true}, {rise(20, 65), false}, {rise(21, 64), true}, {rise(21, 65), false}, {rise(22, 64), true}, {rise(22, 65), false},
		{right(65), true}, {right(66), false}, {append(right(64), ops(api.OpNeg)...), false}, {append(right(63), ops(api.OpNeg)...), true},
		{nil, false}, {[]api.Node{}, false}, {ops(4, 4), false}, {ops(20), false}, {ops(4, 30), false}, {ops(4, 4, 4, 30), false}, {ops(4, 11), false}, {ops(11, 4), false},
		{[]api.Node{{Op: api.OpInt, Val: -1}}, false}, {[]api.Node{{Op: api.OpVar}}, false}, {[]api.Node{{Op: api.OpInt, Val: 1}, {Op: api.OpNeg}}, true},
	} {
		if got := tree.FormedExpr(c.e); got != c.want {
			t.Errorf("row %d: %v", i, got)
		}
	}
}

// formOf says of a kind of declarations which fields it has: the sorts, how great each number is at least (1: it is not used), and whether the rest is used.
type formOf struct {
	with        bool
	sorts       []int
	least       [3]int64
	expr, stage bool
}

var forms = map[int]formOf{
	api.DeConst:    {least: [3]int64{-2147483647, 1, 1}, sorts: []int{0}},
	api.DeGroup:    {least: [3]int64{0, 0, 0}, sorts: []int{1, 2}},
	api.DeConflict: {least: [3]int64{0, 0, 1}, sorts: []int{0}, with: true},
	api.DeDetector: {least: [3]int64{0, 0, 1}, sorts: []int{0, 1}},
	api.DeTimer:    {least: [3]int64{1, 1, 1}, sorts: []int{0}},
	api.DeCounter:  {least: [3]int64{1, 1, 1}, sorts: []int{0}},
	api.DeVar:      {least: [3]int64{-2147483647, 1, 1}, sorts: []int{0}},
	api.DeCond:     {least: [3]int64{1, 1, 1}, sorts: []int{0}, expr: true},
	api.DeStage:    {least: [3]int64{1, 1, 1}, sorts: []int{0}, stage: true},
	api.DeStart:    {least: [3]int64{1, 1, 1}, sorts: []int{0}},
}

// What a declaration's fields may be. The third expression alone is well formed; the first two, and the first two stages, are empty.
var (
	someExprs  = [][]api.Node{nil, {}, {{Op: api.OpInt}}, {{Op: api.OpInt, Val: -1}}, {{Op: api.OpNeg}}, {{Op: api.OpVar}}}
	someStages = []api.Stage{{}, {Green: []string{}, Enter: []api.Stmt{}, During: []api.Stmt{}, Leave: []api.Stmt{}, Nexts: []api.Next{}}, {Green: []string{"a"}}, {Enter: []api.Stmt{{Kind: api.StRun, Name: "a"}}}, {During: []api.Stmt{{Kind: api.StRun, Name: "a"}}}, {Leave: []api.Stmt{{Kind: api.StRun, Name: "a"}}}, {Nexts: []api.Next{{To: "a", When: []api.Node{{Op: api.OpElapsed}}}}}}
	someWords  = []int32{math.MinInt32, -2147483647, -1, 0, 1, math.MaxInt32}
)

func isFormedDecl(d api.Decl, expr, stage int) bool {
	f, ok := forms[d.Kind]
	if !ok || !slices.Contains(goodNames, d.Name) || !slices.Contains(f.sorts, d.Sort) {
		return false
	}
	if f.with && !slices.Contains(goodNames, d.With) || !f.with && d.With != "" {
		return false
	}
	for i, n := range d.N {
		if f.least[i] == 1 && n != 0 || f.least[i] < 1 && int64(n) < f.least[i] {
			return false
		}
	}
	return (expr == 2) == f.expr && (expr <= 2) && (f.stage || stage <= 1)
}

// trial is a declaration with an expression and a stage by their places in the lists above.
type trial struct {
	decl        api.Decl
	expr, stage int
}

// fitting is a trial whose fields fit its kind.
func fitting(kind int) trial {
	f, x := forms[kind], trial{decl: api.Decl{Kind: kind, Name: "a"}}
	if f.with {
		x.decl.With = "a"
	}
	if f.expr {
		x.expr = 2
	}
	if f.sorts != nil {
		x.decl.Sort = f.sorts[0]
	}
	return x
}

// trials are a fitting one, and it with each field by itself as each thing.
func trials(kind int) []trial {
	list := []trial{fitting(kind)}
	with := func(change func(x *trial)) {
		x := fitting(kind)
		change(&x)
		list = append(list, x)
	}
	for _, n := range slices.Concat(goodNames, badNames) {
		with(func(x *trial) { x.decl.Name = n })
		with(func(x *trial) { x.decl.With = n })
	}
	for _, sort := range []int{math.MinInt, -1, 0, 1, 2, 3, 1<<32 + 1, math.MaxInt} {
		with(func(x *trial) { x.decl.Sort = sort })
	}
	for i := range 3 {
		for _, n := range someWords {
			with(func(x *trial) { x.decl.N[i] = n })
		}
	}
	for e := range someExprs {
		with(func(x *trial) { x.expr = e })
	}
	for s := range someStages {
		with(func(x *trial) { x.stage = s })
	}
	return list
}

// mixed is a trial with several fields changed at random.
func mixed(r *rand.Rand, kind int) trial {
	x := fitting(kind)
	for i := range 3 {
		x.decl.N[i] = someWords[3+r.Intn(3)] * r.Int31n(2)
	}
	x.decl.Sort = r.Intn(3)
	if r.Intn(3) == 0 {
		x.decl.N[r.Intn(3)] = someWords[r.Intn(6)]
	}
	if r.Intn(6) == 0 {
		x.expr = r.Intn(len(someExprs))
	}
	if r.Intn(6) == 0 {
		x.stage = r.Intn(len(someStages))
	}
	return x
}

// P3.7: declarations of every kind, with all sorts of fields that fit and that don't.
func TestFormedDeclarations(t *testing.T) {
	r, count := rand.New(rand.NewSource(37)), map[bool]int{}
	for kind := -1; kind <= 12; kind++ {
		list := trials(kind)
		for range 3000 {
			list = append(list, mixed(r, kind))
		}
		for _, x := range list {
			d := x.decl
			d.Expr, d.Stage, d.At = someExprs[x.expr], someStages[x.stage], at(r.Intn(3)-1, r.Intn(3)-1)
			want := isFormedDecl(d, x.expr, x.stage)
			count[want]++
			for _, p := range []api.Plan{{Name: "p", Decls: []api.Decl{d}}, {Name: "p", Decls: []api.Decl{{Kind: api.DeTimer, Name: "t"}, d, {Kind: api.DeStart, Name: "t"}}}} {
				if got := tree.Formed(p); got != want {
					t.Fatalf("Formed(%+v) = %v", p, got)
				}
			}
		}
	}
	if count[true] < 1000 || count[false] < 1000 {
		t.Errorf("%v", count)
	}
}

// P3.7: the plan's own name, and plans without declarations.
func TestFormedPlan(t *testing.T) {
	for _, n := range goodNames {
		if !tree.Formed(api.Plan{Name: n}) || !tree.Formed(api.Plan{Name: n, Decls: []api.Decl{}}) {
			t.Errorf("a plan %q is not well formed", n)
		}
	}
	for _, n := range badNames {
		if tree.Formed(api.Plan{Name: n}) {
			t.Errorf("a plan %.40q is well formed", n)
		}
	}
	for _, kind := range []int{math.MinInt, math.MaxInt, 1<<32 + 5, 256 + 5} {
		if tree.Formed(api.Plan{Name: "p", Decls: []api.Decl{{Kind: kind, Name: "a"}}}) {
			t.Errorf("a declaration of kind %d is well formed", kind)
		}
	}
}

// P3.7: the names and expressions of stages.
func TestFormedStages(t *testing.T) {
	yes := []api.Node{{Op: api.OpElapsed}}
	formed := func(s api.Stage) bool {
		return tree.Formed(api.Plan{Name: "p", Decls: []api.Decl{{Kind: api.DeStage, Name: "s", Stage: s}}})
	}
	for i, n := range slices.Concat(goodNames, badNames) {
		want := i < len(goodNames)
		for _, s := range []api.Stage{{Green: []string{n}}, {Green: []string{"a", n}}, {Green: []string{n, "a"}}, {Nexts: []api.Next{{To: n, When: yes}}}, {Nexts: []api.Next{{To: "a", When: yes}, {To: n, When: yes, At: at(-1, 0)}}}} {
			if got := formed(s); got != want {
				t.Errorf("%v: %+v", got, s)
			}
		}
	}
	for i, e := range someExprs {
		if got := formed(api.Stage{Nexts: []api.Next{{To: "a", When: yes}, {To: "a", When: e}}}); got != (i == 2) {
			t.Errorf("a next with %v: %v", e, got)
		}
	}
	if !formed(api.Stage{Green: []string{"a", "a"}}) {
		t.Errorf("a group twice")
	}
}

// isFormedStmt tells by the words of P3.7 whether a statement is well formed by itself; expr is its expression's place in someExprs.
func isFormedStmt(s api.Stmt, expr int) bool {
	wantName := s.Kind >= 1 && s.Kind <= 6
	wantExpr := s.Kind == api.StSet || s.Kind == api.StIf
	return s.Kind >= 1 && s.Kind <= 9 && s.Ix == 0 && (wantName && slices.Contains(goodNames, s.Name) || !wantName && s.Name == "") && (wantExpr && expr == 2 || !wantExpr && expr <= 1)
}

// inStage lays a list into one of the three blocks.
func inStage(block int, list []api.Stmt) api.Plan {
	d := api.Decl{Kind: api.DeStage, Name: "s"}
	*[]*[]api.Stmt{&d.Stage.Enter, &d.Stage.During, &d.Stage.Leave}[block] = list
	return api.Plan{Name: "p", Decls: []api.Decl{d}}
}

// P3.7: each statement by itself, within an if where it needs one.
func TestFormedStatements(t *testing.T) {
	fi, end := api.Stmt{Kind: api.StIf, Expr: someExprs[2]}, api.Stmt{Kind: api.StEnd}
	for kind := -2; kind <= 12; kind++ {
		for _, name := range []string{"", "a", "min", "1", strings.Repeat("N", 32), strings.Repeat("N", 33)} {
			for expr := range someExprs {
				for _, ix := range []int{0, 1, -1, math.MaxInt} {
					s := api.Stmt{Kind: kind, Name: name, Expr: someExprs[expr], Ix: ix, At: at(-1, 5)}
					list := []api.Stmt{fi, s, end}
					switch kind {
					case api.StIf:
						list = []api.Stmt{s, end}
					case api.StEnd:
						list = []api.Stmt{fi, s}
					}
					want := isFormedStmt(s, expr)
					for block := range 3 {
						if got := tree.Formed(inStage(block, list)); got != want {
							t.Fatalf("block %d: %v: %+v", block, got, list)
						}
					}
				}
			}
		}
	}
}

// readList reads ifs, elses, ends and others as the grammar nests them, and tells what is left over behind them and whether all is well.
func readList(kinds []int, depth int) ([]int, bool) {
	for len(kinds) > 0 && kinds[0] != api.StElse && kinds[0] != api.StEnd {
		isIf := kinds[0] == api.StIf
		kinds = kinds[1:]
		if !isIf {
			continue
		}
		if depth == api.MaxBlocks {
			return nil, false
		}
		ok := true
		if kinds, ok = readList(kinds, depth+1); ok && len(kinds) > 0 && kinds[0] == api.StElse {
			kinds, ok = readList(kinds[1:], depth+1)
		}
		if !ok || len(kinds) == 0 || kinds[0] != api.StEnd {
			return nil, false
		}
		kinds = kinds[1:]
	}
	return kinds, true
}

func stmtsOf(kinds []int) []api.Stmt {
	var list []api.Stmt
	for _, k := range kinds {
		s := api.Stmt{Kind: k}
		if k < api.StIf {
			s.Name = "a"
		}
		if k == api.StIf || k == api.StSet {
			s.Expr = someExprs[2]
		}
		list = append(list, s)
	}
	return list
}

// P3.7: all short lists of ifs, elses, ends and others, as brackets.
func TestFormedIfs(t *testing.T) {
	var try func(kinds []int)
	try = func(kinds []int) {
		left, ok := readList(kinds, 0)
		if got := tree.Formed(inStage(len(kinds)%3, stmtsOf(kinds))); got != (ok && len(left) == 0) {
			t.Fatalf("%v: %v", kinds, got)
		}
		if len(kinds) < 7 {
			for _, k := range []int{api.StIf, api.StElse, api.StEnd, api.StRun} {
				try(append(kinds[:len(kinds):len(kinds)], k))
			}
		}
	}
	try(nil)
}

// P3.7: how many ifs may be open at once; an else that a closed if had does not count for the next one.
func TestFormedBlocks(t *testing.T) {
	rep := func(n int, kinds ...int) []int { return slices.Repeat(kinds, n) }
	for _, c := range []struct {
		kinds []int
		want  bool
	}{
		{append(rep(16, 7), rep(16, 9)...), true},
		{append(rep(17, 7), rep(17, 9)...), false},
		{append(rep(16, 7, 8), rep(16, 9)...), true},
		{append(rep(17, 7, 8), rep(17, 9)...), false},
		{append(rep(16, 7), rep(16, 8, 9)...), true},
		{append(rep(16, 7), rep(15, 9)...), false},
		{append(rep(16, 7), rep(17, 9)...), false},
		{rep(1000, 7, 9), true},
		{rep(1000, 7, 8, 9), true},
		{append(rep(15, 7, 8), append(rep(100, 7, 3, 8, 3, 9), rep(15, 9)...)...), true},
		{rep(100000, 7), false}, {rep(100000, 9), false}, {rep(100000, 3), true},
	} {
		if got := tree.Formed(inStage(1, stmtsOf(c.kinds))); got != c.want {
			t.Errorf("%d statements %.20v: %v", len(c.kinds), c.kinds, got)
		}
	}
}

// P3.7: plans at random are well formed, and each is read back from a text.
func TestFormedAtRandom(t *testing.T) {
	r := rand.New(rand.NewSource(73))
	for range 1000 {
		p := somePlan(r, 5)
		if !tree.Formed(p) {
			t.Fatalf("%+v is not well formed", p)
		}
		w := newWriter(r)
		w.plan(p)
		if q, f := tree.Parse(w.text.String()); f != (api.Fault{}) || !tree.Same(p, q) {
			t.Fatalf("%+v is read back as %+v, %v", p, q, f)
		}
	}
}
