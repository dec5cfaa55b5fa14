package code_test

import (
	"fmt"
	"math/rand"
	"slices"
	"testing"

	"junction/api"
	"junction/code"
	"junction/opt"
	"junction/rom"
	"junction/sim"
)

// P11.6: an expression's code puts its value on the stack, changes nothing else, and stays within the depth.
func TestExprRuns(t *testing.T) {
	t.Parallel()
	r := rand.New(rand.NewSource(10))
	jumped := 0
	for n := range 3000 {
		m := anyMaker(r)
		if n%10 == 0 {
			m = fullMaker(r)
		}
		x := m.scene()
		s, e, at, pool := m.state(x), m.either(), r.Intn(3000), m.pool()
		list, grown := exprCode(t, e, at, pool)
		below := m.pool()
		now := copied(s)
		v := &machine{dets: x.Dets, pool: grown, from: at, code: list, now: &now, stack: slices.Clone(below)}
		end, picked := v.run(at)
		want, errno := sim.Value(x, s, e)
		if errno != api.OK {
			t.Fatalf("Value of %v: %d", e, errno)
		}
		if end != at+len(list) || picked != -1 || !same(v.stack, append(slices.Clone(below), want)) || !same(now, s) {
			t.Fatalf("%v, %s: ends at %d with the stack %v, want %v and %d, in %+v, then %+v", e, told(list), end, v.stack, below, want, s, now)
		}
		if depth := code.Depth(e); v.high > len(below)+depth || v.steps > len(list) {
			t.Fatalf("%v: the stack is %d high, with %d below; depth %d, %d steps", e, v.high, len(below), depth, v.steps)
		}
		if v.steps < len(list) {
			jumped++
		}
	}
	if jumped < 200 {
		t.Errorf("only %d of 3000 have jumped", jumped)
	}
}

// P11.3, P11.6: where nothing is jumped over the stack comes to be as high as the depth says.
func TestDepthIsReached(t *testing.T) {
	t.Parallel()
	r := rand.New(rand.NewSource(11))
	seen := 0
	for range 2000 {
		m := anyMaker(r)
		x := m.scene()
		e, now := m.either(), m.state(x)
		list, pool := exprCode(t, e, 0, nil)
		v := &machine{dets: x.Dets, pool: pool, code: list, now: &now}
		if v.run(0); v.steps == len(list) {
			seen++
			if depth := code.Depth(e); depth != v.high {
				t.Fatalf("Depth(%v) = %d, but the stack is %d high", e, depth, v.high)
			}
		}
	}
	if seen < 500 {
		t.Errorf("only %d of 2000 run through", seen)
	}
}

// P11.6: the code of a list does what the list does: a tick with the list as the stage's during is the tick without one, and then the code.
func TestBodyRuns(t *testing.T) {
	t.Parallel()
	r := rand.New(rand.NewSource(12))
	changed := 0
	for n := range 1500 {
		m := anyMaker(r)
		if n%10 == 0 {
			m = fullMaker(r)
		}
		x := m.scene()
		s, l, in, at := m.state(x), m.list(3), r.Uint64(), r.Intn(3000)
		now := ticked(t, x, s, in)
		ahead := copied(now)
		x.Stages[0].During = l
		want := ticked(t, x, s, in)
		list, pool := bodyCode(t, l, at, m.pool())
		below := m.pool()
		v := &machine{dets: x.Dets, pool: pool, from: at, code: list, now: &now, stack: slices.Clone(below)}
		end, picked := v.run(at)
		if end != at+len(list) || picked != -1 || !same(v.stack, below) || v.steps > len(list) {
			t.Fatalf("%v, %s: ends at %d behind %d steps with the stack %v, want %v", l, told(list), end, v.steps, v.stack, below)
		}
		if !same(now, want) {
			t.Fatalf("%v, %s: %+v, want %+v", l, told(list), now, want)
		}
		if !same(now, ahead) {
			changed++
		}
	}
	if changed < 500 {
		t.Errorf("only %d of 1500 lists do something", changed)
	}
}

// ticked is the state behind one more tick.
func ticked(t *testing.T, x api.Typed, s api.State, in uint64) api.State {
	t.Helper()
	played, e := sim.Resume(x, s)
	if e != api.OK {
		t.Fatalf("Resume: %d of %+v in %+v", e, s, x)
	}
	played.Tick(in)
	return played.State()
}

// P11.4, P11.6: an image that is run as the machine runs it shows and keeps what its plan does.
func TestImageRuns(t *testing.T) {
	t.Parallel()
	r := rand.New(rand.NewSource(13))
	left := 0
	for range 500 {
		x := anyTyped(r)
		if r.Intn(4) == 0 {
			x, _ = opt.Plan(x)
		}
		m := generated(t, x)
		played, _ := sim.New(x)
		p := newPlayer(m)
		last := -1
		for tick, in := range anyIns(r, 40) {
			p.steps, p.high = 0, 0
			entry, want := p.tick(in), played.Tick(in)
			if entry != want || !same(*p.now, played.State()) {
				t.Fatalf("%+v\n%s\ntick %d: %v %+v, want %v %+v", x, told(m.Code), tick, entry, *p.now, want, played.State())
			}
			if p.steps > len(m.Code) || p.high > m.Depth {
				t.Fatalf("%+v: %d steps, %d high", x, p.steps, p.high)
			}
			if entry.Stage != -1 && last != -1 && entry.Stage != last {
				left++
			}
			if entry.Stage != -1 {
				last = entry.Stage
			}
		}
	}
	if left < 500 {
		t.Errorf("only %d stages are left", left)
	}
}

// The check that the next test asks finds what is wrong: chapter 12's examples.
func TestVerifyItself(t *testing.T) {
	t.Parallel()
	for _, c := range []struct {
		code        string
		tick, leave int
		want        api.Errno
		at          int
	}{
		{"end, end, end", 1, 2, api.OK, 0},
		{"small 1, store 0, end, end, end", 3, 4, api.OK, 0},
		{"truth 1, store 0, end, end, end", 3, 4, api.ErrSort, 1},
		{"small 1, end, end, end", 2, 3, api.ErrStack, 1},
		{"store 0, end, end, end", 2, 3, api.ErrStack, 0},
		{"small 1, small 1, small 1, add, add, store 0, end, end, end", 7, 8, api.ErrStack, 2},
		{"end, end, end, end", 2, 3, api.ErrDead, 1},
		{"run 0, end, end", 1, 2, api.ErrEnd, 0},
		{"run 1, end, end, end", 2, 3, api.ErrIndex, 0},
		{"truth 1, if 2, end, end, end", 3, 4, api.OK, 0},
		{"truth 1, if 3, end, end, end", 3, 4, api.ErrJump, 1},
		{"jump 0, end, end, end", 2, 3, api.ErrJump, 0},
		{"truth 1, andjump 3, small 1, store 0, end, end, end", 5, 6, api.ErrJoin2, 2},
		{"truth 1, andjump 2, end, end, end", 3, 4, api.ErrJoin2, 1},
		{"end, pick 0, end", 1, 2, api.ErrIndex, 1},
		{"pick 0, end, end", 1, 2, api.ErrPick, 0},
		{"end, end, end", 0, 1, api.ErrSection, 0},
	} {
		m := api.Image{Name: "p", Vars: make([]int32, 1), Timers: 1, Depth: 2, Slots: []api.Slot{{Tick: c.tick, Leave: c.leave}}, Code: written(c.code)}
		if f := verify(m); f != (api.Fault{Code: c.want, At: api.Pos{Col: c.at}}) {
			t.Errorf("%s: %v, want %d at %d", c.code, f, c.want, c.at)
		}
	}
}

// P11.7: the load-time check finds nothing wrong with an image, nor with what is read of its bytes; with a lesser depth it does.
func TestImagesAreVerified(t *testing.T) {
	t.Parallel()
	r := rand.New(rand.NewSource(14))
	plans := []api.Typed{resolved(t, smallPlan), resolved(t, twoPlan), fullPlan()}
	for range 1500 {
		plans = append(plans, anyTyped(r))
	}
	for _, x := range plans {
		smaller, _ := opt.Plan(x)
		for _, x := range []api.Typed{x, smaller} {
			m := generated(t, x)
			if f := verify(m); f != (api.Fault{}) {
				t.Fatalf("%v in the image of %.9000s", f, fmt.Sprintf("%+v", x))
			}
			b, _ := rom.Encode(m)
			if again, f := rom.Decode(b); f != (api.Fault{}) || !same(again, m) {
				t.Fatalf("%v: the image's bytes are not the image, %.9000s", f, fmt.Sprintf("%+v", x))
			}
			if m.Depth > 0 {
				m.Depth--
				if f := verify(m); f.Code != api.ErrStack {
					t.Fatalf("%v with depth %d in the image of %.9000s", f, m.Depth, fmt.Sprintf("%+v", x))
				}
			}
		}
	}
}

// moved is code with so many places more in each jump.
func moved(list []api.Instr, d int) []api.Instr {
	list = slices.Clone(list)
	for i, in := range list {
		if in.Op == api.InIf || in.Op == api.InJump || in.Op == api.InAnd || in.Op == api.InOr {
			list[i].Arg += int32(d)
		}
	}
	return list
}

// P11.8: code moves.
func TestCodeMoves(t *testing.T) {
	t.Parallel()
	r := rand.New(rand.NewSource(15))
	for n := range 2000 {
		m := anyMaker(r)
		e, l, pool := m.either(), m.list(3), m.pool()
		at, to := r.Intn(60000), pick(r, 0, r.Intn(60000))
		if n%2 == 0 {
			to = 65536 - len(e)
		}
		first, grown := exprCode(t, e, at, pool)
		second, more := exprCode(t, e, to, pool)
		if !same(second, moved(first, to-at)) || !same(grown, more) {
			t.Fatalf("Expr(%v) at %d: %s, at %d: %s", e, at, told(first), to, told(second))
		}
		first, grown = bodyCode(t, l, at, pool)
		to = pick(r, 0, r.Intn(60000), 65536-len(first))
		second, more = bodyCode(t, l, to, pool)
		if !same(second, moved(first, to-at)) || !same(grown, more) {
			t.Fatalf("Body(%v) at %d: %s, at %d: %s", l, at, told(first), to, told(second))
		}
		if _, _, errno := code.Body(l, 65537-len(first), pool); errno != api.ErrFull {
			t.Fatalf("Body(%v) beyond the last place: %d", l, errno)
		}
	}
}

// P11.2: the code of a list is that of its parts one behind the other, with the pool of the first handed on to the second.
func TestBodiesJoin(t *testing.T) {
	t.Parallel()
	r := rand.New(rand.NewSource(16))
	for range 1000 {
		m := anyMaker(r)
		a, b, at, pool := m.list(2), m.list(2), r.Intn(1000), m.pool()
		whole, grown := bodyCode(t, slices.Concat(a, b), at, pool)
		first, between := bodyCode(t, a, at, pool)
		second, more := bodyCode(t, b, at+len(first), between)
		if !same(whole, slices.Concat(first, second)) || !same(grown, more) {
			t.Fatalf("%v and %v: %s, and of both %s", a, b, told(slices.Concat(first, second)), told(whole))
		}
	}
}
