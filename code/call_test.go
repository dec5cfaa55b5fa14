package code_test

import (
	"math/rand"
	"reflect"
	"slices"
	"sync"
	"testing"

	"junction/api"
	"junction/code"
)

// G3: what Expr is given is not changed, and what it answers is new memory, the pool too, whether it has grown or not.
func TestExprKeepsNothing(t *testing.T) {
	t.Parallel()
	r := rand.New(rand.NewSource(20))
	for range 1000 {
		m := anyMaker(r)
		e, pool := copied(m.either()), copied(m.pool())
		spare := pool[:cap(pool)]
		keptE, kept := slices.Clone(e[:cap(e)]), slices.Clone(spare)
		list, grown := exprCode(t, e, 3, pool)
		again, more := exprCode(t, e, 3, pool)
		code.Depth(e)
		if !reflect.DeepEqual(e[:cap(e)], keptE) || !slices.Equal(spare, kept) {
			t.Fatalf("Expr has changed %v to %v, or %v to %v", keptE, e, kept, spare)
		}
		if shares(e, pool, list, grown, again, more) {
			t.Fatalf("what Expr(%v, 3, %v) answers shares memory", e, pool)
		}
		want, wantPool, _ := modelExpr(keptE[:len(e)], 3, kept[:len(pool)])
		ruin(e)
		ruin(pool)
		ruin(again)
		ruin(more)
		if !same(list, want) || !same(grown, wantPool) {
			t.Fatalf("Expr(%v) keeps what it was given", keptE)
		}
	}
}

// G3: the same of Body.
func TestBodyKeepsNothing(t *testing.T) {
	t.Parallel()
	r := rand.New(rand.NewSource(21))
	for range 1000 {
		m := anyMaker(r)
		l, pool := copied(m.list(3)), copied(m.pool())
		spare := pool[:cap(pool)]
		keptL, kept := copied(l), slices.Clone(spare)
		list, grown := bodyCode(t, l, 3, pool)
		again, more := bodyCode(t, l, 3, pool)
		if !reflect.DeepEqual(l, keptL) || !slices.Equal(spare, kept) {
			t.Fatalf("Body has changed %v to %v, or %v to %v", keptL, l, kept, spare)
		}
		if shares(l, pool, list, grown, again, more) {
			t.Fatalf("what Body(%v, 3, %v) answers shares memory", l, pool)
		}
		want, wantPool, _ := modelBody(keptL, 3, kept[:len(pool)])
		ruin(l)
		ruin(pool)
		ruin(again)
		ruin(more)
		if !same(list, want) || !same(grown, wantPool) {
			t.Fatalf("Body(%v) keeps what it was given", keptL)
		}
	}
}

// G3: the same of Generate and List.
func TestGenerateKeepsNothing(t *testing.T) {
	t.Parallel()
	r := rand.New(rand.NewSource(22))
	for range 500 {
		x := copied(anyTyped(r))
		kept := copied(x)
		m, again := generated(t, x), generated(t, x)
		if !reflect.DeepEqual(x, kept) {
			t.Fatalf("Generate has changed %+v to %+v", kept, x)
		}
		if shares(x, m, again) {
			t.Fatalf("what Generate answers of %+v shares memory", x)
		}
		ruin(x)
		ruin(again)
		if !same(m, modelImage(kept)) {
			t.Fatalf("Generate keeps what it was given of %+v", kept)
		}
		m = copied(m)
		given := copied(m)
		lines, _ := code.List(m)
		more, _ := code.List(m)
		if !reflect.DeepEqual(m, given) || shares(m, lines, more) {
			t.Fatalf("List has changed %+v, or shares its memory", given)
		}
		ruin(m)
		ruin(more)
		if !slices.Equal(lines, modelList(given)) {
			t.Fatalf("List keeps what it was given of %+v", given)
		}
	}
}

// G4: nil and empty lists count as the same.
func TestNilAndEmpty(t *testing.T) {
	t.Parallel()
	one := leaf(api.OpInt, 500)
	a, p, e := code.Expr(one, 0, nil)
	b, q, f := code.Expr(one, 0, []int32{})
	if e != f || !same(a, b) || !same(p, q) {
		t.Errorf("Expr: %v, %v, %d and %v, %v, %d", a, p, e, b, q, f)
	}
	a, p, e = code.Body(nil, 0, nil)
	b, q, f = code.Body([]api.Stmt{}, 0, []int32{})
	if e != api.OK || f != api.OK || len(a)+len(b)+len(p)+len(q) != 0 {
		t.Errorf("Body: %v, %v, %d and %v, %v, %d", a, p, e, b, q, f)
	}
	x := resolved(t, "plan p { start s; stage s { green; } }")
	x.Dets, x.Timers, x.Tables.Groups, x.Stages[0].Enter = []api.Det{}, []string{}, []api.Group{}, []api.Stmt{}
	if m := generated(t, x); !same(m, modelImage(x)) {
		t.Errorf("Generate: %+v", m)
	}
}

// G2: the same call gives the same answer, whatever was called in between; calls at the same time know nothing of each other.
func TestAtTheSameTime(t *testing.T) {
	t.Parallel()
	var all sync.WaitGroup
	for i := range 8 {
		all.Go(func() {
			r := rand.New(rand.NewSource(int64(i)))
			for range 100 {
				x := anyTyped(r)
				m, errno := code.Generate(x)
				lines, e := code.List(m)
				if errno != api.OK || e != api.OK || !same(m, modelImage(x)) || !slices.Equal(lines, modelList(m)) {
					t.Errorf("%+v: %+v, %d, %q, %d", x, m, errno, lines, e)
					return
				}
				work := anyMaker(r)
				expr, pool := work.either(), work.pool()
				list, grown, errno := code.Expr(expr, i, pool)
				want, more, _ := modelExpr(expr, i, pool)
				if errno != api.OK || !same(list, want) || !same(grown, more) {
					t.Errorf("%v: %s, %v, %d", expr, told(list), grown, errno)
					return
				}
			}
		})
	}
	all.Wait()
}

// G1: whatever is given, each call ends and none panics; with an error all else is zero.
func TestGarbage(t *testing.T) {
	t.Parallel()
	r := rand.New(rand.NewSource(23))
	for range 2000 {
		m := anyMaker(r)
		e, l, x := m.either(), m.list(2), anyTyped(r)
		for range 1 + r.Intn(4) {
			e, l, x = spoilt(r, e), spoilt(r, l), spoilt(r, x)
		}
		at, pool := pick(r, 0, 5, -1, 65530, 65536, 1<<63-1, -1<<63), make([]int32, pick(r, 0, 1, 16383, 16384, 16385))
		if list, grown, errno := code.Expr(e, at, pool); errno != api.OK && len(list)+len(grown) != 0 {
			t.Fatalf("Expr(%v): %v, %d words, %d", e, list, len(grown), errno)
		}
		if list, grown, errno := code.Body(l, at, pool); errno != api.OK && len(list)+len(grown) != 0 {
			t.Fatalf("Body(%v): %v, %d words, %d", l, list, len(grown), errno)
		}
		image, errno := code.Generate(x)
		if errno != api.OK && !same(image, api.Image{}) {
			t.Fatalf("Generate(%+v): %+v, %d", x, image, errno)
		}
		if lines, errno := code.List(spoilt(r, image)); errno != api.OK && len(lines) != 0 {
			t.Fatalf("List: %q, %d", lines, errno)
		}
		code.Depth(e)
	}
}

// G1: great lists are refused soon.
func TestGreatLists(t *testing.T) {
	t.Parallel()
	const many = 1 << 20
	nodes := slices.Repeat(leaf(api.OpInt, 1), many)
	if _, _, e := code.Expr(nodes, 0, nil); e != api.ErrExpr || code.Depth(nodes) != -1 {
		t.Errorf("Expr: %d", e)
	}
	if _, _, e := code.Expr(nodes[:1], 0, make([]int32, many)); e != api.ErrFull {
		t.Errorf("Expr with a great pool: %d", e)
	}
	if _, _, e := code.Body([]api.Stmt{{Kind: api.StSet, Expr: nodes}}, 0, nil); e != api.ErrTyped {
		t.Errorf("Body: %d", e)
	}
	if _, _, e := code.Body(nil, 0, make([]int32, many)); e != api.ErrFull {
		t.Errorf("Body with a great pool: %d", e)
	}
	x := resolved(t, twoPlan)
	x.Stages[0].Nexts = make([]api.TNext, many)
	if _, e := code.Generate(x); e != api.ErrTyped {
		t.Errorf("Generate: %d", e)
	}
	m := generated(t, resolved(t, twoPlan))
	m.Code = make([]api.Instr, many)
	if _, e := code.List(m); e != api.ErrRom {
		t.Errorf("List: %d", e)
	}
}
