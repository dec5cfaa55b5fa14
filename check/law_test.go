package check_test

import (
	"fmt"
	"math/rand"
	"slices"
	"testing"

	"junction/api"
	"junction/check"
	"junction/pretty"
	"junction/tree"
)

// P5.7: of two plans that are equal but for places the errors are the same, or the typed plans.
func TestNoPlaceMatters(t *testing.T) {
	t.Parallel()
	r := rand.New(rand.NewSource(57))
	for range 4000 {
		p := anyPlan(r, pick(r, 0, 30, 100))
		x, f := check.Resolve(p)
		for _, q := range []api.Plan{tree.Bare(p), shaken(r, p)} {
			y, g := check.Resolve(q)
			if f.Code != g.Code || !same(x, y) {
				t.Fatalf("%v and %v, of %+v and %+v", f, g, p, q)
			}
		}
	}
}

// P5.8: declarations that nothing names may be added behind the last one.
func TestMoreDeclarations(t *testing.T) {
	t.Parallel()
	r := rand.New(rand.NewSource(58))
	seen := 0
	for range 3000 {
		p := anyPlan(r, 0)
		x, f := check.Resolve(p)
		if f != (api.Fault{}) {
			continue
		}
		seen++
		q := p
		q.Decls = slices.Clone(p.Decls)
		for i := range 1 + r.Intn(6) {
			d := api.Decl{Kind: pick(r, api.DeConst, api.DeTimer, api.DeCounter, api.DeVar, api.DeCond), Name: fmt.Sprintf("new%d", i)}
			if d.Kind == api.DeCond {
				g := &planner{r: r, p: q}
				d.Expr = g.short(api.TyBool)
			}
			q.Decls = append(q.Decls, d)
			y, f := check.Resolve(q)
			if f.Code == api.ErrSize && d.Kind == api.DeCond {
				break
			}
			if f != (api.Fault{}) || !same(x.Tables, y.Tables) || !same(x.Dets, y.Dets) || !same(x.Stages, y.Stages) || x.Start != y.Start || x.Name != y.Name {
				t.Fatalf("%v, %+v\nwant %+v", f, y, x)
			}
			if !same(x.Timers, y.Timers[:len(x.Timers)]) || !same(x.Counters, y.Counters[:len(x.Counters)]) || !same(x.Vars, y.Vars[:len(x.Vars)]) {
				t.Fatalf("the older ones: %+v\nwant %+v", y, x)
			}
		}
	}
	if seen < 2000 {
		t.Errorf("%d plans alone are taken", seen)
	}
}

// replaced is a plan with nodes in the place of each name of that kind, where the one who is asked wants it.
func replaced(p api.Plan, kind int, wants func() bool, with func(api.Decl) []api.Node) api.Plan {
	p = copied(p)
	change := func(e []api.Node) []api.Node {
		var out []api.Node
		for _, n := range e {
			i := slices.IndexFunc(p.Decls, func(d api.Decl) bool { return d.Kind == kind && d.Name == n.Name })
			if n.Op == api.OpName && i >= 0 && wants() {
				out = append(out, with(p.Decls[i])...)
			} else {
				out = append(out, n)
			}
		}
		return out
	}
	for i := range p.Decls {
		d := &p.Decls[i]
		d.Expr = change(d.Expr)
		for _, block := range [][]api.Stmt{d.Stage.Enter, d.Stage.During, d.Stage.Leave} {
			for j := range block {
				block[j].Expr = change(block[j].Expr)
			}
		}
		for j := range d.Stage.Nexts {
			d.Stage.Nexts[j].When = change(d.Stage.Nexts[j].When)
		}
	}
	return p
}

func constantText(d api.Decl) []api.Node {
	if v := d.N[0]; v < 0 {
		return []api.Node{node(api.OpInt, -v), node(api.OpNeg)}
	}
	return []api.Node{node(api.OpInt, d.N[0])}
}

// P5.9: a constant and its number, a condition and its text are the same, as trees and as texts.
func TestPutInByHand(t *testing.T) {
	t.Parallel()
	r := rand.New(rand.NewSource(59))
	changed := 0
	for range 2500 {
		p := anyPlan(r, 0)
		x, f := check.Resolve(p)
		if f != (api.Fault{}) {
			continue
		}
		some := func() bool { return r.Intn(2) == 0 }
		numbers := replaced(p, api.DeConst, some, constantText)
		texts := replaced(p, api.DeCond, some, func(d api.Decl) []api.Node { return d.Expr })
		both := replaced(numbers, api.DeCond, some, func(d api.Decl) []api.Node { return d.Expr })
		for _, q := range []api.Plan{numbers, texts, both} {
			if !tree.Formed(q) {
				continue
			}
			if !tree.Same(p, q) {
				changed++
			}
			if y, f := check.Resolve(q); f != (api.Fault{}) || !same(x, y) {
				t.Fatalf("%v, %+v of %+v\nwant %+v of %+v", f, y, q, x, p)
			}
			text, e := pretty.Print(q)
			if e != api.OK {
				continue
			}
			read, f := tree.Parse(text)
			if y, g := check.Resolve(read); f != (api.Fault{}) || g != (api.Fault{}) || !same(x, y) {
				t.Fatalf("%v, %v, %+v of %s", f, g, y, text)
			}
		}
	}
	if changed < 1500 {
		t.Errorf("%d plans alone were changed", changed)
	}
}

// P5.9: by hand, with the brackets that are needed.
func TestPutInByText(t *testing.T) {
	const rest = " timer r; detector d; var v = 0; start s; stage s { green; enter { v = 2 - %s * 3; if %s == d and not %s { } } next t when %s and d; } stage t { green; }"
	by := func(number, truth string) api.Typed {
		return taken(t, "const k = -7; const z = 0; detector e; cond c = e or z > k; cond b = not c;"+fmt.Sprintf(rest, number, truth, truth, truth))
	}
	if x, y := by("k", "c"), by("-7", "(e or z > k)"); !same(x, y) {
		t.Errorf("%+v\n%+v", x, y)
	}
	if x, y := by("z", "b"), by("0", "(not (e or 0 > -7))"); !same(x, y) {
		t.Errorf("%+v\n%+v", x, y)
	}
}

// G1: values whose fields don't fit one another are taken or refused, and that is all.
func TestAnyValues(t *testing.T) {
	t.Parallel()
	r := rand.New(rand.NewSource(60))
	for range 800 {
		p := anyPlan(r, pick(r, 0, 10))
		x := anyTyped(r)
		var list []api.Symbol
		for range 1 + r.Intn(12) {
			p, x = spoilt(r, p), spoilt(r, x)
			list = append(list, api.Symbol{Name: pick(r, "", "a", "w1", "w2"), Kind: r.Intn(14) - 2, Ix: r.Int(), At: at(-1, r.Int())})
		}
		symbols, f := check.Symbols(p)
		y, g := check.Resolve(p)
		if f != (api.Fault{}) && (len(symbols) != 0 || f != g) || g != (api.Fault{}) && !same(y, api.Typed{}) {
			t.Fatalf("%v, %v, %v, %+v", symbols, f, g, y)
		}
		for _, e := range exprsOf(x) {
			listAhead, exprAhead := copied(list), copied(e)
			if typ, f := check.TypeOf(list, e); (typ == 0) != (f != (api.Fault{})) || !same(list, listAhead) || !same(e, exprAhead) {
				t.Fatalf("%d, %v of %+v", typ, f, e)
			}
			if check.SoundExpr(x, e, r.Intn(4)-1) && !modelSoundExpr(x, e, 1) && !modelSoundExpr(x, e, 2) {
				t.Fatalf("%+v", e)
			}
		}
		if check.Grid(x.Tables) != modelGrid(x.Tables) || check.Sound(x) != modelSound(x) {
			t.Fatalf("%+v", x)
		}
		thereAndBack(t, x)
	}
}

// G2, G3: an answer is new memory, of a condition that is put in at several places too, and does not hang on what is done to an earlier one.
func TestAnswersAreNew(t *testing.T) {
	p := parsed(t, "detector d; cond c = d or not d; start s; stage s { green; enter { if c { } if c { } } next t when c; next t when c; } stage t { green; next s when c; }")
	x, _ := check.Resolve(p)
	if shares(p, x) {
		t.Error("Resolve: memory is shared")
	}
	want := copied(x)
	for _, e := range exprsOf(x) {
		clear(e[:cap(e)])
	}
	if y, _ := check.Resolve(p); !same(y, want) {
		t.Errorf("%+v, want %+v", y, want)
	}
	a, _ := check.Symbols(p)
	b, _ := check.Symbols(p)
	if shares(p, a, b) {
		t.Error("Symbols: memory is shared")
	}
}
