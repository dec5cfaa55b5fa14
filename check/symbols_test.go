package check_test

import (
	"strings"
	"testing"

	"junction/api"
	"junction/check"
	"junction/tree"
)

// P5.1: each kind is counted by itself, in the plan's order; a conflict and a start declare nothing, nor does the plan itself.
func TestSymbolsInTheirOrder(t *testing.T) {
	p := parsed(t, strings.Join([]string{"", "timer a;", "var p = 1;", " group g vehicle min 1 amber 0;", "timer c;", "start s;", "const k = -2;", "group h vehicle min 1 amber 0;", "conflict g h 1 2;", "stage s { green; }", "detector d;", "counter n;", "cond q = true;", "var w = 0;", "stage u { green; }", "  cond r = q;"}, "\n"))
	got, f := check.Symbols(p)
	want := []api.Symbol{
		{Name: "a", Kind: api.DeTimer, Ix: 0, At: at(2, 1)},
		{Name: "p", Kind: api.DeVar, Ix: 0, At: at(3, 1)},
		{Name: "g", Kind: api.DeGroup, Ix: 0, At: at(4, 2)},
		{Name: "c", Kind: api.DeTimer, Ix: 1, At: at(5, 1)},
		{Name: "k", Kind: api.DeConst, Ix: 0, At: at(7, 1)},
		{Name: "h", Kind: api.DeGroup, Ix: 1, At: at(8, 1)},
		{Name: "s", Kind: api.DeStage, Ix: 0, At: at(10, 1)},
		{Name: "d", Kind: api.DeDetector, Ix: 0, At: at(11, 1)},
		{Name: "n", Kind: api.DeCounter, Ix: 0, At: at(12, 1)},
		{Name: "q", Kind: api.DeCond, Ix: 0, At: at(13, 1)},
		{Name: "w", Kind: api.DeVar, Ix: 1, At: at(14, 1)},
		{Name: "u", Kind: api.DeStage, Ix: 1, At: at(15, 1)},
		{Name: "r", Kind: api.DeCond, Ix: 1, At: at(16, 3)},
	}
	if f != (api.Fault{}) || !same(got, want) {
		t.Errorf("%+v, %v, want %+v", got, f, want)
	}
	got, f = check.Symbols(parsed(t, ""))
	if f != (api.Fault{}) || len(got) != 0 {
		t.Errorf("no declarations: %v, %v", got, f)
	}
}

// P5.1: the third step is not taken: what it refuses Symbols takes.
func TestSymbolsLooksNoFurther(t *testing.T) {
	for _, body := range []string{"start s;", "cond c = 1;", "cond c = q;", "group g vehicle min 0 amber 99;", "conflict a a 1 1;", "stage s { green s; next s when 1; }", "start s; start s;"} {
		if _, f := check.Symbols(parsed(t, body)); f != (api.Fault{}) {
			t.Errorf("%s: %v", body, f)
		}
	}
}

// P5.1, P5.3: what is not well formed is refused ahead of all else.
func TestNotFormed(t *testing.T) {
	twice := parsed(t, "var x = 1; var x = 1;")
	for i, spoil := range []func(*api.Plan){
		func(p *api.Plan) { p.Name = "" },
		func(p *api.Plan) { p.Name = "plan" },
		func(p *api.Plan) { p.Decls[1].Kind = 0 },
		func(p *api.Plan) { p.Decls[1].Kind = 11 },
		func(p *api.Plan) { p.Decls[1].Name = strings.Repeat("x", api.MaxName+1) },
		func(p *api.Plan) { p.Decls[1].N[1] = 1 },
		func(p *api.Plan) { p.Decls[1].N[0] = -1 << 31 },
		func(p *api.Plan) { p.Decls = append(p.Decls, api.Decl{Kind: api.DeCond, Name: "c"}) },
		func(p *api.Plan) {
			p.Decls = append(p.Decls, api.Decl{Kind: api.DeStage, Name: "s", Stage: api.Stage{Leave: []api.Stmt{{Kind: api.StEnd}}}})
		},
		func(p *api.Plan) { *p = api.Plan{} },
	} {
		p := copied(twice)
		spoil(&p)
		if list, f := check.Symbols(p); len(list) != 0 || f != fault(api.ErrTree, at(0, 0)) {
			t.Errorf("row %d: Symbols: %v, %v", i, list, f)
		}
		if x, f := check.Resolve(p); !same(x, api.Typed{}) || f != fault(api.ErrTree, at(0, 0)) {
			t.Errorf("row %d: Resolve: %v, %v", i, x, f)
		}
	}
}

// P5.1, P5.3: all names stand in one space, whatever their kinds.
func TestTwice(t *testing.T) {
	for k, first := range declared {
		for l, second := range declared {
			body := "timer a; " + first + " counter b; @" + second + " start x; start x;"
			p, where := marked(t, body)
			if list, f := check.Symbols(p); len(list) != 0 || f != fault(api.ErrTwice, where) {
				t.Errorf("kinds %d and %d: Symbols: %v, %v", k, l, list, f)
			}
			if _, f := check.Resolve(p); f != fault(api.ErrTwice, where) {
				t.Errorf("kinds %d and %d: Resolve: %v", k, l, f)
			}
		}
		// Neither the plan's name nor a start's nor a conflict's is declared by it.
		p := parsed(t, "start x; conflict x x 1 1; "+first+" start x; conflict x x 1 1;")
		p.Name = "x"
		if list, f := check.Symbols(p); f != (api.Fault{}) || len(list) != 1 {
			t.Errorf("kind %d: %v, %v", k, list, f)
		}
	}
	// Names are held against each other byte by byte.
	if list, f := check.Symbols(parsed(t, "timer x; timer X; timer x_; timer x1; timer xx;")); f != (api.Fault{}) || len(list) != 5 {
		t.Errorf("names that are nearly the same: %v, %v", list, f)
	}
}

// many are so many declarations of a kind, with places of their own.
func many(t *testing.T, kind, count int) []api.Decl {
	one := parsed(t, declared[kind]).Decls[0]
	var list []api.Decl
	for i := range count {
		d := one
		d.Name, d.At = letters(i), at(i+1, 7)
		list = append(list, d)
	}
	return list
}

// P5.1, P5.3, G8: how many there may be of each kind.
func TestMany(t *testing.T) {
	for kind, most := range map[int]int{api.DeGroup: 64, api.DeDetector: 64, api.DeTimer: 64, api.DeCounter: 64, api.DeVar: 64, api.DeStage: 256} {
		for _, more := range []int{0, 1, 2} {
			list := many(t, kind, most+more)
			// Of another kind in between: it counts for itself.
			for i := range 60 {
				other := api.DeTimer
				if kind == api.DeTimer {
					other = api.DeCounter
				}
				list = append(list[:2*i:2*i], append([]api.Decl{{Kind: other, Name: "o" + letters(i)}}, list[2*i:]...)...)
			}
			p := api.Plan{Name: "p", Decls: list}
			want := api.Fault{}
			if more > 0 {
				want = fault(api.ErrMany, at(most+1, 7))
			}
			symbols, f := check.Symbols(p)
			if f != want || more == 0 && len(symbols) != most+60 || more > 0 && len(symbols) != 0 {
				t.Errorf("%d of kind %d: %d symbols, %v", most+more, kind, len(symbols), f)
			}
			p.Decls = append(p.Decls, api.Decl{Kind: api.DeStart, Name: "z"}, api.Decl{Kind: api.DeStage, Name: "z", At: at(9, 9)})
			if more > 0 || kind == api.DeStage {
				if want == (api.Fault{}) {
					want = fault(api.ErrMany, at(9, 9))
				}
			}
			if _, f := check.Resolve(p); f != want {
				t.Errorf("%d of kind %d: Resolve: %v, want %v", most+more, kind, f, want)
			}
		}
	}
}

// P5.1: of constants, conditions, conflicts and starts there may be any number.
func TestAnyNumber(t *testing.T) {
	for _, kind := range []int{api.DeConst, api.DeCond} {
		p := api.Plan{Name: "p", Decls: many(t, kind, 5000)}
		if list, f := check.Symbols(p); f != (api.Fault{}) || len(list) != 5000 || list[4999].Ix != 4999 {
			t.Errorf("5000 of kind %d: %d symbols, %v", kind, len(list), f)
		}
		p.Decls = append(p.Decls, api.Decl{Kind: api.DeStart, Name: "z"}, api.Decl{Kind: api.DeStage, Name: "z"})
		if _, f := check.Resolve(p); f != (api.Fault{}) {
			t.Errorf("5000 of kind %d: %v", kind, f)
		}
	}
	p := api.Plan{Name: "p"}
	for range 5000 {
		p.Decls = append(p.Decls, api.Decl{Kind: api.DeConflict, Name: "a", With: "b"}, api.Decl{Kind: api.DeStart, Name: "a"})
	}
	if list, f := check.Symbols(p); f != (api.Fault{}) || len(list) != 0 {
		t.Errorf("5000 conflicts and starts: %d symbols, %v", len(list), f)
	}
}

// P5.1: ErrTwice is looked for ahead of ErrMany at one declaration, and of two declarations the first one's fault is told.
func TestTwiceAndMany(t *testing.T) {
	full := many(t, api.DeTimer, 64)
	twice := api.Decl{Kind: api.DeTimer, Name: letters(3), At: at(70, 1)}
	new65 := api.Decl{Kind: api.DeTimer, Name: "z", At: at(71, 1)}
	for i, c := range []struct {
		decls []api.Decl
		want  api.Fault
	}{
		{append(full[:64:64], twice), fault(api.ErrTwice, at(70, 1))},
		{append(full[:64:64], twice, new65), fault(api.ErrTwice, at(70, 1))},
		{append(full[:64:64], new65, twice), fault(api.ErrMany, at(71, 1))},
	} {
		for _, name := range []string{"p", "z"} {
			p := api.Plan{Name: name, Decls: c.decls}
			if !tree.Formed(p) {
				t.Fatal("the test's plan is not well formed")
			}
			if _, f := check.Symbols(p); f != c.want {
				t.Errorf("row %d: %v", i, f)
			}
		}
	}
}
