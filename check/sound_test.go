package check_test

import (
	"math"
	"math/rand"
	"slices"
	"strings"
	"testing"

	"junction/api"
	"junction/check"
)

// fullGrid are tables at their limits.
func fullGrid() api.Tables {
	var t api.Tables
	for i := range 64 {
		t.Groups = append(t.Groups, api.Group{Sort: 1 + i%2, Min: 1 + 3599*(i%2), Amber: 60 * (i % 2), Lead: 60 * (1 - i%2)})
		for b := i + 1; b < 64; b++ {
			t.Conflicts = append(t.Conflicts, api.Conflict{A: i, B: b, AB: 3600 * (b % 2), BA: 3600 * (1 - b%2)})
		}
	}
	return t
}

// P5.5: Grid.
func TestGrid(t *testing.T) {
	for i, g := range []api.Tables{{}, {Groups: []api.Group{}, Conflicts: []api.Conflict{}}, fullGrid()} {
		if !check.Grid(g) {
			t.Errorf("row %d: sound tables are refused", i)
		}
	}
	// Names are not looked at.
	g := fullGrid()
	g.Groups[1].Name, g.Groups[2].Name, g.Groups[3].Name = "min", "a b", "a b"
	if !check.Grid(g) {
		t.Error("names are looked at")
	}
	for i, spoil := range []func(*api.Tables){
		func(g *api.Tables) { g.Groups = append(g.Groups, api.Group{Sort: 1, Min: 1}) },
		func(g *api.Tables) { g.Groups = g.Groups[:63] },
		func(g *api.Tables) { g.Groups = nil },
		func(g *api.Tables) { g.Groups[63].Sort = 0 },
		func(g *api.Tables) { g.Groups[63].Sort = 3 },
		func(g *api.Tables) { g.Groups[63].Min = 0 },
		func(g *api.Tables) { g.Groups[63].Min = 3601 },
		func(g *api.Tables) { g.Groups[63].Min = math.MinInt },
		func(g *api.Tables) { g.Groups[63].Amber = -1 },
		func(g *api.Tables) { g.Groups[63].Amber = 61 },
		func(g *api.Tables) { g.Groups[63].Lead = -1 },
		func(g *api.Tables) { g.Groups[63].Lead = 61 },
		func(g *api.Tables) { g.Conflicts[9].AB = -1 },
		func(g *api.Tables) { g.Conflicts[9].AB = 3601 },
		func(g *api.Tables) { g.Conflicts[9].BA = -1 },
		func(g *api.Tables) { g.Conflicts[9].BA = math.MaxInt },
		func(g *api.Tables) { g.Conflicts[0].A = -1 },
		func(g *api.Tables) { g.Conflicts[0].A, g.Conflicts[0].B = 1, 0 },
		func(g *api.Tables) { g.Conflicts[0].B = 0 },
		func(g *api.Tables) { g.Conflicts[len(g.Conflicts)-1].B = 64 },
		func(g *api.Tables) { g.Conflicts[8], g.Conflicts[9] = g.Conflicts[9], g.Conflicts[8] },
		func(g *api.Tables) { g.Conflicts[8] = g.Conflicts[9] },
		func(g *api.Tables) { g.Conflicts[70], g.Conflicts[9] = g.Conflicts[9], g.Conflicts[70] },
		func(g *api.Tables) { g.Conflicts = append(g.Conflicts, g.Conflicts...) },
	} {
		g := fullGrid()
		spoil(&g)
		if check.Grid(g) || modelGrid(g) {
			t.Errorf("row %d: spoilt tables are let in", i)
		}
	}
	r := rand.New(rand.NewSource(53))
	some := api.Tables{Groups: fullGrid().Groups[:5], Conflicts: []api.Conflict{{A: 0, B: 1}, {A: 0, B: 4}, {A: 1, B: 2}, {A: 3, B: 4}}}
	for range 20000 {
		x := spoilt(r, some)
		if check.Grid(x) != modelGrid(x) {
			t.Fatalf("Grid is %v of %+v", check.Grid(x), x)
		}
	}
}

// things is a typed plan with so many of each kind: two groups, three variables, four timers, five counters, six detectors. All else of it is not sound.
func things() api.Typed {
	return api.Typed{Tables: api.Tables{Groups: make([]api.Group, 2)}, Vars: make([]api.Var, 3), Timers: make([]string, 4), Counters: make([]string, 5), Dets: make([]api.Det, 6), Start: -1}
}

// P5.5: each Op with each value, alone or over operands that fit it.
func TestSoundExprOfEachNode(t *testing.T) {
	counts := map[int]int32{api.OpBool: 2, api.OpGreen: 2, api.OpRed: 2, api.OpVar: 3, api.OpTimer: 4, api.OpCounter: 5, api.OpDet: 6, api.OpElapsed: 1}
	truth := map[int]bool{api.OpBool: true, api.OpGreen: true, api.OpRed: true, api.OpDet: true}
	for op := -3; op <= 60; op++ {
		for _, val := range []int32{math.MinInt32, -1, 0, 1, 2, 3, 4, 5, 6, 7, math.MaxInt32} {
			o, operator := operators()[op]
			want, typ := false, 0
			var e []api.Node
			switch {
			case operator:
				want, typ = val == 0, o.is
				for _, takes := range o.takes[0] {
					e = append(e, node(map[int]int{api.TyInt: api.OpElapsed, api.TyBool: api.OpBool}[takes]))
				}
			case op == api.OpInt:
				want, typ = true, api.TyInt
			case op == api.OpName:
			case counts[op] > 0:
				want, typ = val >= 0 && val < counts[op], api.TyInt
				if truth[op] {
					typ = api.TyBool
				}
			}
			for asked := -1; asked <= 3; asked++ {
				x := append(slices.Clone(e), node(op, val))
				if got := check.SoundExpr(things(), x, asked); got != (want && asked == typ) {
					t.Errorf("Op %d, Val %d, as %d: %v", op, val, asked, got)
				}
				for _, wrong := range []api.Node{{Name: "a"}, {At: at(1, 0)}, {At: at(0, 1)}, {At: at(0, -1)}} {
					x[len(x)-1].Name, x[len(x)-1].At = wrong.Name, wrong.At
					if check.SoundExpr(things(), x, asked) {
						t.Errorf("Op %d, Val %d with a name or a place: it is let in", op, val)
					}
				}
			}
		}
	}
}

// P5.5: shapes and sizes of expressions; of the plan the five lengths alone are looked at.
func TestSoundExprLimits(t *testing.T) {
	deep := func(op, n int) []api.Node {
		return append(nodes(api.OpElapsed), slices.Repeat(nodes(op), n)...)
	}
	long := func(n int) []api.Node {
		return append(nodes(api.OpElapsed), slices.Repeat(nodes(api.OpElapsed, api.OpAdd), n)...)
	}
	for i, c := range []struct {
		e    []api.Node
		typ  int
		want bool
	}{
		{nil, api.TyInt, false}, {nil, api.TyBool, false}, {nil, 0, false}, {[]api.Node{}, 0, false},
		{nodes(api.OpElapsed), api.TyInt, true}, {nodes(api.OpElapsed), api.TyBool, false}, {nodes(api.OpElapsed), 0, false}, {nodes(api.OpElapsed), 3, false}, {nodes(api.OpElapsed), -1, false},
		{nodes(api.OpElapsed, api.OpElapsed), api.TyInt, false}, {nodes(api.OpAdd), api.TyInt, false}, {nodes(api.OpElapsed, api.OpAdd), api.TyInt, false},
		{deep(api.OpNeg, 64), api.TyInt, true}, {deep(api.OpNeg, 65), api.TyInt, false}, {deep(api.OpAbs, 64), api.TyInt, true}, {deep(api.OpAbs, 65), api.TyInt, false},
		{long(127), api.TyInt, true}, {append(long(127), node(api.OpNeg)), api.TyInt, true}, {append(long(127), nodes(api.OpNeg, api.OpNeg)...), api.TyInt, false}, {long(128), api.TyInt, false}, {long(100000), api.TyInt, false}, {deep(api.OpNeg, 1000000), api.TyInt, false},
		{[]api.Node{node(api.OpInt, math.MinInt32)}, api.TyInt, true},
		{[]api.Node{node(api.OpVar), node(api.OpInt, -7), node(api.OpAdd)}, api.TyInt, true},
		{[]api.Node{{Op: api.OpName, Name: "v"}}, api.TyInt, false},
		{[]api.Node{{Op: api.OpName}}, api.TyInt, false},
		{[]api.Node{{Op: api.OpName}}, 0, false},
	} {
		if got := check.SoundExpr(things(), c.e, c.typ); got != c.want {
			t.Errorf("row %d: %v", i, got)
		}
	}
	many := api.Typed{Timers: make([]string, 100)}
	if !check.SoundExpr(many, []api.Node{node(api.OpTimer, 99)}, api.TyInt) || check.SoundExpr(many, []api.Node{node(api.OpTimer, 100)}, api.TyInt) {
		t.Error("a list above its limit is not gone by its length")
	}
}

// P5.5: expressions at random against the second way.
func TestSoundExprAtRandom(t *testing.T) {
	t.Parallel()
	r := rand.New(rand.NewSource(54))
	x, sound := things(), 0
	for range 40000 {
		e := typedExpr(r, 1+r.Intn(2), 1+r.Intn(9))
		for range r.Intn(3) {
			e = spoilt(r, e)
		}
		typ := pick(r, 1, 1, 1, 2, 2, 2, 0, 3)
		got := check.SoundExpr(x, e, typ)
		if got != modelSoundExpr(x, e, typ) {
			t.Fatalf("SoundExpr as %d is %v of %+v", typ, got, e)
		}
		if got {
			sound++
		}
	}
	if sound < 5000 {
		t.Errorf("%d alone are sound", sound)
	}
}

// typedExpr is an expression over things, of a type, of that many nodes.
func typedExpr(r *rand.Rand, typ, size int) []api.Node {
	if size < 2 {
		if typ == api.TyInt {
			return []api.Node{pick(r, node(api.OpInt, pick(r, -1, 0, math.MinInt32, r.Int31())), node(api.OpElapsed), node(api.OpVar, r.Int31n(3)), node(api.OpTimer, r.Int31n(4)), node(api.OpCounter, r.Int31n(5)))}
		}
		return []api.Node{pick(r, node(api.OpBool, r.Int31n(2)), node(api.OpGreen, r.Int31n(2)), node(api.OpRed, r.Int31n(2)), node(api.OpDet, r.Int31n(6)))}
	}
	var fit []int
	for op := range 60 {
		if o, ok := operators()[op]; ok && o.is == typ && (len(o.takes[0]) == 1 || size > 2) {
			fit = append(fit, op)
		}
	}
	op := pick(r, fit...)
	takes := pick(r, operators()[op].takes...)
	if len(takes) == 1 {
		return append(typedExpr(r, takes[0], size-1), node(op))
	}
	first := 1 + r.Intn(size-2)
	return append(append(typedExpr(r, takes[0], first), typedExpr(r, takes[1], size-1-first)...), node(op))
}

// soundPlan is a typed plan with something of everything.
func soundPlan() api.Typed {
	yes := func() []api.Node { return []api.Node{node(api.OpBool, 1)} }
	num := func() []api.Node { return []api.Node{node(api.OpInt, -3)} }
	return api.Typed{
		Name:     "p",
		Tables:   api.Tables{Groups: []api.Group{{Name: "g", Sort: 1, Min: 1}, {Name: "h", Sort: 2, Min: 3600, Amber: 60, Lead: 60}}, Conflicts: []api.Conflict{{A: 0, B: 1, AB: 3600, BA: 0}}},
		Dets:     []api.Det{{Name: "d", Delay: 3600}, {Name: "e", Latch: true, Hold: 3600}},
		Timers:   []string{"t", "u"},
		Counters: []string{"c", "b"},
		Vars:     []api.Var{{Name: "v", Init: math.MinInt32}, {Name: "w", Init: math.MaxInt32}},
		Stages: []api.TStage{
			{Name: "q", Id: 0, Green: 3, Enter: []api.Stmt{{Kind: api.StSet, Ix: 1, Expr: num()}, {Kind: api.StReset, Ix: 1}, {Kind: api.StRun, Ix: 1}, {Kind: api.StStop, Ix: 1}, {Kind: api.StCount, Ix: 1}, {Kind: api.StClear, Ix: 1}, {Kind: api.StZero, Ix: 1}}, Nexts: []api.TNext{{To: 1, When: yes()}, {To: 2, When: yes()}}},
			{Name: "r", Id: 7, During: []api.Stmt{{Kind: api.StIf, Expr: yes()}, {Kind: api.StIf, Expr: yes()}, {Kind: api.StElse}, {Kind: api.StEnd}, {Kind: api.StElse}, {Kind: api.StEnd}, {Kind: api.StIf, Expr: yes()}, {Kind: api.StEnd}}, Nexts: []api.TNext{{To: 0, When: yes()}}},
			{Name: "s", Id: 255, Green: 2, Leave: []api.Stmt{{Kind: api.StRun}}},
		},
		Start: 2,
	}
}

// spoilers are changes of soundPlan that make it unsound, by the clause of the chapter that each breaks.
func spoilers() map[string][]func(*api.Typed) {
	long := strings.Repeat("z", 33)
	return map[string][]func(*api.Typed){
		"names": {
			func(t *api.Typed) { t.Name = "" }, func(t *api.Typed) { t.Name = "min" }, func(t *api.Typed) { t.Name = long },
			func(t *api.Typed) { t.Tables.Groups[1].Name = "" }, func(t *api.Typed) { t.Dets[1].Name = "green" }, func(t *api.Typed) { t.Timers[1] = "1a" }, func(t *api.Typed) { t.Counters[1] = "a b" }, func(t *api.Typed) { t.Vars[1].Name = long }, func(t *api.Typed) { t.Stages[2].Name = "_" },
			func(t *api.Typed) { t.Tables.Groups[1].Name = "g" }, func(t *api.Typed) { t.Dets[1].Name = "h" }, func(t *api.Typed) { t.Timers[1] = "e" }, func(t *api.Typed) { t.Counters[1] = "u" }, func(t *api.Typed) { t.Vars[1].Name = "b" }, func(t *api.Typed) { t.Stages[2].Name = "w" }, func(t *api.Typed) { t.Stages[2].Name = "q" },
		},
		"tables": {
			func(t *api.Typed) { t.Tables.Groups[1].Sort = 0 }, func(t *api.Typed) { t.Tables.Conflicts[0].B = 2 },
			func(t *api.Typed) { t.Dets[1].Delay = -1 }, func(t *api.Typed) { t.Dets[1].Delay = 3601 }, func(t *api.Typed) { t.Dets[1].Hold = -1 }, func(t *api.Typed) { t.Dets[1].Hold = 3601 },
		},
		"stages": {
			func(t *api.Typed) { t.Stages[0].Id = -1 }, func(t *api.Typed) { t.Stages[1].Id = 0 }, func(t *api.Typed) { t.Stages[1].Id = 255 }, func(t *api.Typed) { t.Stages[2].Id = 256 }, func(t *api.Typed) { t.Stages[2].Id = 5 },
			func(t *api.Typed) { t.Stages[2].Green = 4 }, func(t *api.Typed) { t.Stages[2].Green = 1 << 63 },
			func(t *api.Typed) { t.Start = -1 }, func(t *api.Typed) { t.Start = 3 }, func(t *api.Typed) { t.Stages = nil; t.Start = 0 },
		},
		"nexts": {
			func(t *api.Typed) { t.Stages[0].Nexts[1].To = 0 }, func(t *api.Typed) { t.Stages[0].Nexts[1].To = -1 }, func(t *api.Typed) { t.Stages[0].Nexts[1].To = 3 },
			func(t *api.Typed) { t.Stages[0].Nexts[1].When = nil }, func(t *api.Typed) { t.Stages[0].Nexts[1].When = nodes(api.OpElapsed) },
		},
		"statements": {
			func(t *api.Typed) { t.Stages[2].Leave[0].Kind = 0 }, func(t *api.Typed) { t.Stages[2].Leave[0].Kind = 11 }, func(t *api.Typed) { t.Stages[2].Leave[0].Kind = -1 },
			func(t *api.Typed) { t.Stages[2].Leave[0].Name = "t" }, func(t *api.Typed) { t.Stages[2].Leave[0].At.Line = 1 }, func(t *api.Typed) { t.Stages[2].Leave[0].At.Col = 1 },
			func(t *api.Typed) { t.Stages[2].Leave[0].Expr = nodes(api.OpElapsed) },
			func(t *api.Typed) { t.Stages[0].Enter[0].Expr = nil }, func(t *api.Typed) { t.Stages[0].Enter[0].Expr = nodes(api.OpBool) }, func(t *api.Typed) { t.Stages[1].During[0].Expr = nodes(api.OpElapsed) }, func(t *api.Typed) { t.Stages[1].During[0].Expr = nil },
			func(t *api.Typed) { t.Stages[1].During[0].Ix = 1 }, func(t *api.Typed) { t.Stages[1].During[2].Ix = 1 }, func(t *api.Typed) { t.Stages[1].During[3].Ix = -1 },
			func(t *api.Typed) { t.Stages[1].During[2].Expr = nodes(api.OpBool) }, func(t *api.Typed) { t.Stages[1].During[3].Expr = nodes(api.OpBool) },
		},
		"ifs": {
			func(t *api.Typed) { t.Stages[1].During[2].Kind = api.StEnd }, func(t *api.Typed) { t.Stages[1].During[3].Kind = api.StElse }, func(t *api.Typed) { t.Stages[1].During = t.Stages[1].During[:7] }, func(t *api.Typed) { t.Stages[1].During = t.Stages[1].During[1:] },
			func(t *api.Typed) {
				t.Stages[1].Enter, t.Stages[1].During = t.Stages[1].During[:4:4], t.Stages[1].During[4:]
			},
			func(t *api.Typed) { t.Stages[2].Enter = []api.Stmt{{Kind: api.StElse}} }, func(t *api.Typed) { t.Stages[2].Enter = []api.Stmt{{Kind: api.StEnd}} },
			func(t *api.Typed) { t.Stages[2].Leave = nested(17) },
		},
	}
}

// nested are so many ifs in one another.
func nested(count int) []api.Stmt {
	var list []api.Stmt
	for range count {
		list = append(list, api.Stmt{Kind: api.StIf, Expr: nodes(api.OpBool)})
	}
	return append(list, slices.Repeat([]api.Stmt{{Kind: api.StEnd}}, count)...)
}

// P5.5: Sound, each of its clauses broken.
func TestSound(t *testing.T) {
	if !check.Sound(soundPlan()) {
		t.Fatal("a sound plan is refused")
	}
	for clause, list := range spoilers() {
		for i, spoil := range list {
			x := soundPlan()
			spoil(&x)
			if check.Sound(x) || modelSound(x) {
				t.Errorf("%s, row %d: it is let in", clause, i)
			}
		}
	}
	// Each statement's number, of both sides.
	for i := range soundPlan().Stages[0].Enter {
		for _, ix := range []int{-1, 2, math.MinInt, math.MaxInt} {
			x := soundPlan()
			x.Stages[0].Enter[i].Ix = ix
			if check.Sound(x) {
				t.Errorf("statement %d with the number %d is let in", i, ix)
			}
		}
	}
	for i, keep := range []func(*api.Typed){
		func(t *api.Typed) { t.Name = "g" },
		func(t *api.Typed) { t.Stages[0].Id = 6 },
		func(t *api.Typed) { t.Start = 0 },
		func(t *api.Typed) { t.Stages[2].Leave = nested(16) },
		func(t *api.Typed) { t.Stages[2].Leave = slices.Concat(nested(16), nested(16)) },
		func(t *api.Typed) { t.Tables.Conflicts = nil },
		func(t *api.Typed) { t.Stages[2].Green = 0 },
		func(t *api.Typed) { t.Stages[0].Nexts = t.Stages[0].Nexts[:0] },
		func(t *api.Typed) { t.Timers[0] = strings.Repeat("z", 32) },
	} {
		x := soundPlan()
		keep(&x)
		if !check.Sound(x) || !modelSound(x) {
			t.Errorf("row %d: it is refused", i)
		}
	}
	if check.Sound(api.Typed{}) {
		t.Error("the zero plan is let in")
	}
	if !check.Sound(api.Typed{Name: "p", Stages: []api.TStage{{Name: "p"}}}) {
		t.Error("the least plan is refused")
	}
}

// P5.5, G8: how many there may be.
func TestSoundLimits(t *testing.T) {
	grow := map[string]func(t *api.Typed, i int){
		"groups": func(t *api.Typed, i int) {
			t.Tables.Groups = append(t.Tables.Groups, api.Group{Name: letters(i), Sort: 1, Min: 1})
		},
		"detectors": func(t *api.Typed, i int) { t.Dets = append(t.Dets, api.Det{Name: letters(i)}) },
		"timers":    func(t *api.Typed, i int) { t.Timers = append(t.Timers, letters(i)) },
		"counters":  func(t *api.Typed, i int) { t.Counters = append(t.Counters, letters(i)) },
		"variables": func(t *api.Typed, i int) { t.Vars = append(t.Vars, api.Var{Name: letters(i)}) },
	}
	for what, more := range grow {
		x := api.Typed{Name: "p", Stages: []api.TStage{{Name: "s"}}}
		for i := range 66 {
			if got := check.Sound(x); got != (i <= 64) {
				t.Errorf("%d %s: %v", i, what, got)
			}
			more(&x, i)
		}
	}
	x := api.Typed{Name: "p"}
	for i := range 258 {
		if got := check.Sound(x); got != within(i, 1, 256) {
			t.Errorf("%d stages: %v", i, got)
		}
		x.Stages = append(x.Stages, api.TStage{Name: letters(i), Id: i})
	}
}

// P5.5, G8: statements, nexts and nodes over all stages.
func TestSoundTotals(t *testing.T) {
	start := func() api.Typed {
		return api.Typed{Name: "p", Timers: []string{"t"}, Vars: []api.Var{{Name: "v"}}, Stages: []api.TStage{{Name: "a", Id: 0}, {Name: "b", Id: 1}}}
	}
	run := func(count int) []api.Stmt { return slices.Repeat([]api.Stmt{{Kind: api.StRun}}, count) }
	when := func(count, size int) []api.TNext {
		return slices.Repeat([]api.TNext{{To: 1, When: truths(size)}}, count)
	}
	for i, c := range []struct {
		a, b api.TStage
		want bool
	}{
		{api.TStage{Enter: run(4096)}, api.TStage{}, true},
		{api.TStage{Enter: run(4097)}, api.TStage{}, false},
		{api.TStage{Enter: run(2000), During: run(2000), Leave: run(90)}, api.TStage{Leave: run(6)}, true},
		{api.TStage{Enter: run(2000), During: run(2000), Leave: run(90)}, api.TStage{Leave: run(7)}, false},
		{api.TStage{Enter: run(2000), During: run(2000), Leave: run(90)}, api.TStage{Leave: slices.Concat(run(4), nested(1))}, true},
		{api.TStage{Enter: run(2000), During: run(2000), Leave: run(90)}, api.TStage{Leave: slices.Concat(run(5), nested(1))}, false},
		{api.TStage{Nexts: when(4096, 1)}, api.TStage{}, true},
		{api.TStage{Nexts: when(4097, 1)}, api.TStage{}, false},
		{api.TStage{Nexts: when(4095, 1)}, api.TStage{Nexts: []api.TNext{{To: 0, When: truths(1)}}}, true},
		{api.TStage{Nexts: when(4096, 1)}, api.TStage{Nexts: []api.TNext{{To: 0, When: truths(1)}}}, false},
		{api.TStage{Enter: run(4096), Nexts: when(4096, 3)}, api.TStage{}, true},
		{api.TStage{Nexts: slices.Concat(when(64, 255), when(64, 1))}, api.TStage{}, true},
		{api.TStage{Nexts: slices.Concat(when(64, 255), when(65, 1))}, api.TStage{}, false},
		{api.TStage{Nexts: slices.Concat(when(64, 255), when(63, 1))}, api.TStage{During: nested(1)}, true},
		{api.TStage{Nexts: slices.Concat(when(64, 255), when(64, 1))}, api.TStage{During: nested(1)}, false},
		{api.TStage{Nexts: slices.Concat(when(64, 255), when(64, 1))}, api.TStage{Enter: []api.Stmt{{Kind: api.StSet, Expr: nodes(api.OpElapsed)}}}, false},
	} {
		x := start()
		c.a.Name, c.b.Name, c.b.Id = "a", "b", 1
		x.Stages[0], x.Stages[1] = c.a, c.b
		if got := check.Sound(x); got != c.want || modelSound(x) != c.want {
			t.Errorf("row %d: %v", i, got)
		}
	}
}

// anyTyped is a sound typed plan, as Resolve or as whoever makes one by hand could have it.
func anyTyped(r *rand.Rand) api.Typed {
	for {
		x, f := check.Resolve(anyPlan(r, 0))
		if f != (api.Fault{}) {
			continue
		}
		if r.Intn(3) == 0 {
			for i := range x.Stages {
				x.Stages[i].Id = i*7 + r.Intn(7)
			}
		}
		for _, e := range exprsOf(x) {
			for i := range e {
				if e[i].Op == api.OpInt && r.Intn(40) == 0 {
					e[i].Val = -e[i].Val - 1
				}
			}
		}
		for i := range x.Vars {
			if r.Intn(20) == 0 {
				x.Vars[i].Init = math.MinInt32
			}
		}
		return x
	}
}

// P5.5: typed plans at random, and the same with a field changed, against the second way.
func TestSoundAtRandom(t *testing.T) {
	t.Parallel()
	r := rand.New(rand.NewSource(55))
	sound, unsound := 0, 0
	for range 800 {
		x := anyTyped(r)
		if !check.Sound(x) {
			t.Fatalf("refused: %+v", x)
		}
		for range 10 {
			y := spoilt(r, x)
			ahead := copied(y)
			got := check.Sound(y)
			if got != modelSound(y) || !same(y, ahead) {
				t.Fatalf("Sound is %v of %+v", got, y)
			}
			if got {
				sound++
			} else {
				unsound++
			}
			for _, e := range exprsOf(y) {
				for typ := range 3 {
					if check.SoundExpr(y, e, typ) != modelSoundExpr(y, e, typ) {
						t.Fatalf("SoundExpr as %d of %+v in %+v", typ, e, y)
					}
				}
			}
			if check.Grid(y.Tables) != modelGrid(y.Tables) {
				t.Fatalf("Grid of %+v", y.Tables)
			}
		}
	}
	if sound < 800 || unsound < 800 {
		t.Errorf("%d sound, %d not", sound, unsound)
	}
}
