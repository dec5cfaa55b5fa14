package opt_test

import (
	"math/rand"
	"slices"
	"testing"

	"junction/api"
	"junction/check"
	"junction/opt"
)

// roomy is a plan with all that there may be, by the lengths of its lists.
func roomy() api.Typed {
	return api.Typed{Tables: api.Tables{Groups: make([]api.Group, 64)}, Dets: make([]api.Det, 64), Timers: make([]string, 64), Counters: make([]string, 64), Vars: make([]api.Var, 64)}
}

// G1, P9.1, P9.2: spoilt expressions are refused just if they do not fit, and none panics.
func TestSpoiltExprs(t *testing.T) {
	t.Parallel()
	r := rand.New(rand.NewSource(11))
	all, taken, refused := roomy(), 0, 0
	for range 40000 {
		m := anyMaker(r)
		e, k := spoilt(r, m.expr(1+r.Intn(2), 1+r.Intn(8))), m.known()
		fits := check.SoundExpr(all, e, api.TyInt) || check.SoundExpr(all, e, api.TyBool)
		_, _, a := opt.Range(e, k)
		folded, b := opt.Fold(e, k)
		want := api.ErrExpr
		if fits {
			want = api.OK
			taken++
		} else {
			refused++
		}
		if a != want || b != want || fits != (len(folded) > 0) {
			t.Fatalf("%+v: %d, %d, want %d", e, a, b, want)
		}
	}
	if taken < 5000 || refused < 5000 {
		t.Errorf("%d taken, %d refused", taken, refused)
	}
}

// fitsAlone is the chapter's word for a list of statements, told anew.
func fitsAlone(list []api.Stmt) bool {
	all, nodes := roomy(), 0
	var elses []int
	for _, s := range list {
		nodes += len(s.Expr)
		isSet, isIf := s.Kind == api.StSet, s.Kind == api.StIf
		switch {
		case s.Kind < 1 || s.Kind > 10 || s.Name != "" || s.At != (api.Pos{}) || s.Ix < 0 || s.Ix > 63:
			return false
		case isSet && !check.SoundExpr(all, s.Expr, api.TyInt), isIf && !check.SoundExpr(all, s.Expr, api.TyBool), !isSet && !isIf && len(s.Expr) > 0:
			return false
		case s.Ix != 0 && slices.Contains([]int{api.StIf, api.StElse, api.StEnd}, s.Kind):
			return false
		}
		switch last := len(elses) - 1; s.Kind {
		case api.StIf:
			elses = append(elses, 0)
		case api.StElse:
			if last < 0 || elses[last] == 1 {
				return false
			}
			elses[last] = 1
		case api.StEnd:
			if last < 0 {
				return false
			}
			elses = elses[:last]
		}
		if len(elses) > 16 {
			return false
		}
	}
	return len(elses) == 0 && len(list) <= 4096 && nodes <= 16384
}

// G1, P9.3: the same of lists of statements.
func TestSpoiltBodies(t *testing.T) {
	t.Parallel()
	r := rand.New(rand.NewSource(12))
	taken, refused := 0, 0
	for range 8000 {
		m := anyMaker(r)
		l, k := spoilt(r, m.list(3)), m.known()
		_, behind, e := opt.Body(l, k)
		if fitsAlone(l) {
			taken++
			if e != api.OK || behind.Green != k.Green || behind.Steady != k.Steady {
				t.Fatalf("%+v: %d, %s", l, e, toldKnown(behind))
			}
			continue
		}
		refused++
		if e != api.ErrTyped || behind != (api.Known{}) {
			t.Fatalf("%+v: %d, %s", l, e, toldKnown(behind))
		}
	}
	if taken < 500 || refused < 500 {
		t.Errorf("%d taken, %d refused", taken, refused)
	}
	for name, list := range wrongBodies() {
		if fitsAlone(list) {
			t.Errorf("%s fits", name)
		}
	}
}

// G1, P9.4: the same of plans.
func TestSpoiltPlans(t *testing.T) {
	t.Parallel()
	r := rand.New(rand.NewSource(13))
	taken, refused := 0, 0
	for range 6000 {
		x := spoilt(r, anyTyped(r))
		o, e := opt.Plan(x)
		if check.Sound(x) {
			taken++
			if e != api.OK || !check.Sound(o) {
				t.Fatalf("%+v: %d", x, e)
			}
			continue
		}
		refused++
		if e != api.ErrTyped || !same(o, api.Typed{}) {
			t.Fatalf("%+v: %d, %+v", x, e, o)
		}
	}
	if taken < 500 || refused < 500 {
		t.Errorf("%d taken, %d refused", taken, refused)
	}
}

// G1: lists of a great length end soon.
func TestGreatLists(t *testing.T) {
	nodes := make([]api.Node, 1<<20)
	for i := range nodes {
		nodes[i] = node(api.OpNeg, 0)
	}
	nodes[0] = node(api.OpVar, 0)
	if _, e := opt.Fold(nodes, api.Known{}); e != api.ErrExpr {
		t.Errorf("Fold: %d", e)
	}
	if _, _, e := opt.Range(nodes, api.Known{}); e != api.ErrExpr {
		t.Errorf("Range: %d", e)
	}
	list := make([]api.Stmt, 1<<20)
	for i := range list {
		list[i] = api.Stmt{Kind: api.StIf, Expr: leaf(api.OpDet, 0)}
	}
	if _, _, e := opt.Body(list, api.Known{}); e != api.ErrTyped {
		t.Errorf("Body: %d", e)
	}
	if _, _, e := opt.Body([]api.Stmt{{Kind: api.StSet, Expr: nodes}}, api.Known{}); e != api.ErrTyped {
		t.Errorf("Body of a long expression: %d", e)
	}
	x := api.Typed{Name: "p", Stages: make([]api.TStage, 1<<16)}
	if _, e := opt.Plan(x); e != api.ErrTyped {
		t.Errorf("Plan: %d", e)
	}
}
