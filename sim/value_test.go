package sim_test

import (
	"math"
	"math/rand"
	"slices"
	"testing"

	"junction/api"
	"junction/sim"
)

// P8.7: each leaf, in a steady state and in a move.
func TestLeaves(t *testing.T) {
	for i, c := range []struct {
		e              []api.Node
		steady, moving int32
	}{
		{leaf(api.OpInt, 0), 0, 0},
		{leaf(api.OpInt, math.MinInt32), math.MinInt32, math.MinInt32},
		{leaf(api.OpInt, top), top, top},
		{leaf(api.OpBool, 0), 0, 0},
		{leaf(api.OpBool, 1), 1, 1},
		{leaf(api.OpElapsed, 0), 3, 3},
		// In the move the groups are amber, red, lead.
		{leaf(api.OpGreen, 0), 1, 0},
		{leaf(api.OpGreen, 1), 0, 0},
		{leaf(api.OpGreen, 2), 1, 0},
		{leaf(api.OpRed, 0), 0, 0},
		{leaf(api.OpRed, 1), 1, 1},
		{leaf(api.OpRed, 2), 0, 0},
		{leaf(api.OpVar, 0), -4, -4},
		{leaf(api.OpVar, 1), math.MinInt32, math.MinInt32},
		{leaf(api.OpTimer, 0), 5, 5},
		{leaf(api.OpTimer, 1), 0, 0},
		{leaf(api.OpCounter, 0), 0, 0},
		{leaf(api.OpCounter, 1), 9, 9},
		{leaf(api.OpDet, 0), 1, 1},
		{leaf(api.OpDet, 1), 1, 1},
	} {
		for n, y := range []api.State{steadyState(), movingState()} {
			want := []int32{c.steady, c.moving}[n]
			if got, e := sim.Value(things(), y, c.e); got != want || e != api.OK {
				t.Errorf("row %d, state %d: %d, %d, want %d", i, n, got, e, want)
			}
		}
	}
	// What a detector says: its latch, or that it is on.
	for _, c := range []struct {
		latch bool
		s     api.DetState
		want  int32
	}{
		{false, api.DetState{}, 0}, {false, api.DetState{On: true}, 1}, {false, api.DetState{Run: 9, Left: 9}, 0},
		{true, api.DetState{}, 0}, {true, api.DetState{On: true}, 1}, {true, api.DetState{Mem: true}, 1}, {true, api.DetState{On: true, Mem: true}, 1}, {true, api.DetState{Run: 9, Left: 9}, 0},
	} {
		x, y := things(), steadyState()
		x.Dets[1].Latch, y.Dets[1] = c.latch, c.s
		if got, e := sim.Value(x, y, leaf(api.OpDet, 1)); got != c.want || e != api.OK {
			t.Errorf("%v: %d, %d", c, got, e)
		}
	}
}

// P8.7: each operator over words at the edges, in the right order of its operands.
func TestOperators(t *testing.T) {
	x, y := things(), steadyState()
	words := []int32{0, 1, -1, 2, -7, 7, 3, top, math.MinInt32, math.MinInt32 + 1, 65536}
	value := func(e []api.Node, want int32) {
		t.Helper()
		if got, no := sim.Value(x, y, e); got != want || no != api.OK {
			t.Errorf("%v: %d, %d, want %d", e, got, no, want)
		}
	}
	for _, a := range words {
		for _, op := range []int{api.OpNeg, api.OpAbs} {
			value(over(op, leaf(api.OpInt, a)), modelUnary(op, a))
		}
		for _, b := range words {
			for op := api.OpAdd; op <= api.OpGe; op++ {
				if op <= api.OpMax || op >= api.OpEq {
					value(over(op, leaf(api.OpInt, a), leaf(api.OpInt, b)), modelBinary(op, int64(a), int64(b)))
				}
			}
		}
	}
	for a := range int32(2) {
		value(over(api.OpNot, leaf(api.OpBool, a)), 1-a)
		for b := range int32(2) {
			for _, op := range []int{api.OpAnd, api.OpOr, api.OpEq, api.OpNe} {
				value(over(op, leaf(api.OpBool, a), leaf(api.OpBool, b)), modelBinary(op, int64(a), int64(b)))
			}
		}
	}
	// (1 - 2) * 3 - (4 - -(5)), and (7 > 3) == not (2 >= 9)
	number := func(n int32) []api.Node { return leaf(api.OpInt, n) }
	value(over(api.OpSub, over(api.OpMul, over(api.OpSub, number(1), number(2)), number(3)), over(api.OpSub, number(4), over(api.OpNeg, number(5)))), -12)
	value(over(api.OpEq, over(api.OpGt, number(7), number(3)), over(api.OpNot, over(api.OpGe, number(2), number(9)))), 1)
}

// P8.7, G8: expressions as long and as deep as may be; one node more is refused.
func TestLargeExpressions(t *testing.T) {
	x, y := things(), steadyState()
	chain := leaf(api.OpInt, 1)
	for range 127 {
		chain = over(api.OpAdd, chain, leaf(api.OpInt, 1))
	}
	nest := func(deep int) []api.Node { // 1 - (1 - (1 - ..))
		e := slices.Repeat(leaf(api.OpInt, 1), deep+2)
		return append(e, slices.Repeat(leaf(api.OpSub, 0), deep+1)...)
	}
	nots := func(count int) []api.Node {
		return append(leaf(api.OpBool, 1), slices.Repeat(leaf(api.OpNot, 0), count)...)
	}
	for i, c := range []struct {
		e    []api.Node
		want int32
		no   api.Errno
	}{
		{chain, 128, api.OK},
		{over(api.OpNeg, chain), -128, api.OK},
		{over(api.OpAbs, over(api.OpNeg, chain)), 0, api.ErrExpr},
		{nest(64), 0, api.OK},
		{nest(63), 1, api.OK},
		{nest(65), 0, api.ErrExpr},
		{nots(63), 0, api.OK},
		{nots(64), 1, api.OK},
		{nots(65), 0, api.ErrExpr},
	} {
		if got, no := sim.Value(x, y, c.e); got != c.want || no != c.no {
			t.Errorf("row %d: %d, %d, want %d, %d", i, got, no, c.want, c.no)
		}
	}
}

// P8.7: what is no expression of the plan.
func TestNoExpressions(t *testing.T) {
	place := leaf(api.OpInt, 1)
	place[0].At.Col = 1
	named := leaf(api.OpInt, 1)
	named[0].Name = "x"
	for i, e := range [][]api.Node{
		nil, {}, place, named, leaf(api.OpName, 0), leaf(0, 0), leaf(-1, 0), leaf(99, 0),
		leaf(api.OpBool, 2), leaf(api.OpBool, -1), leaf(api.OpElapsed, 1), leaf(api.OpGreen, 3), leaf(api.OpRed, -1), leaf(api.OpVar, 2), leaf(api.OpTimer, 2), leaf(api.OpCounter, 2), leaf(api.OpDet, 2),
		leaf(api.OpNeg, 0), leaf(api.OpAdd, 0), over(api.OpAdd, leaf(api.OpInt, 1)), append(leaf(api.OpInt, 1), leaf(api.OpInt, 1)...),
		over(api.OpNot, leaf(api.OpInt, 1)), over(api.OpNeg, leaf(api.OpBool, 1)), over(api.OpAnd, leaf(api.OpBool, 1), leaf(api.OpInt, 1)), over(api.OpEq, leaf(api.OpBool, 1), leaf(api.OpInt, 1)), over(api.OpAdd, leaf(api.OpBool, 1), leaf(api.OpBool, 1)),
	} {
		if v, no := sim.Value(things(), steadyState(), e); v != 0 || no != api.ErrExpr {
			t.Errorf("row %d: %d, %d", i, v, no)
		}
	}
}

// P8.7: at random against the second way, in any states of any plans.
func TestValueAtRandom(t *testing.T) {
	t.Parallel()
	r := rand.New(rand.NewSource(87))
	truths := 0
	for range 1500 {
		x := anyTyped(r)
		y := anyState(r, x)
		g := &planner{r: r, x: x}
		for range 8 {
			e := g.expr(1+r.Intn(2), 1+r.Intn(12))
			kept, state := slices.Clone(e), copied(y)
			got, no := sim.Value(x, y, e)
			if want := (&model{x: x, s: y}).value(e); got != want || no != api.OK {
				t.Fatalf("%d, %d, want %d: %v in %+v of %+v", got, no, want, e, y, x)
			}
			if !slices.Equal(e, kept) || !same(y, state) {
				t.Fatalf("changed: %v, %+v", e, y)
			}
			if got == 1 {
				truths++
			}
		}
	}
	if truths < 1000 || truths > 10000 {
		t.Errorf("%d are 1", truths)
	}
}
