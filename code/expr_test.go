package code_test

import (
	"fmt"
	"math/rand"
	"testing"

	"junction/api"
	"junction/check"
	"junction/code"
)

// P11.1: the chapter's examples, and each row of its table.
func TestExpr(t *testing.T) {
	t.Parallel()
	for _, c := range []struct {
		e    []api.Node
		at   int
		pool []int32
		want string
		grow []int32
	}{
		{numberOf(t, "5"), 0, nil, "small 5", nil},
		{numberOf(t, "1000 + 1000"), 0, []int32{7}, "const 1, const 1, add", []int32{7, 1000}},
		{truthOf(t, "d0 and y < 3"), 10, nil, "det 0, andjump 15, var 1, small 3, lt", nil},
		{truthOf(t, "d0 or d1 or d2"), 0, nil, "det 0, orjump 3, det 1, orjump 5, det 2", nil},

		{leaf(api.OpInt, 0), 0, nil, "small 0", nil},
		{leaf(api.OpInt, 127), 0, nil, "small 127", nil},
		{leaf(api.OpInt, 128), 0, nil, "const 0", []int32{128}},
		{leaf(api.OpInt, -128), 0, nil, "small -128", nil},
		{leaf(api.OpInt, -129), 0, nil, "const 0", []int32{-129}},
		{leaf(api.OpInt, most), 0, nil, "const 0", []int32{most}},
		{leaf(api.OpInt, least), 0, nil, "const 0", []int32{least}},
		{leaf(api.OpBool, 0), 0, nil, "truth 0", nil},
		{leaf(api.OpBool, 1), 0, nil, "truth 1", nil},
		{leaf(api.OpElapsed, 0), 0, nil, "elapsed", nil},
		{leaf(api.OpVar, 63), 0, nil, "var 63", nil},
		{leaf(api.OpTimer, 62), 0, nil, "timer 62", nil},
		{leaf(api.OpCounter, 61), 0, nil, "counter 61", nil},
		{leaf(api.OpDet, 60), 0, nil, "det 60", nil},
		{leaf(api.OpGreen, 59), 0, nil, "green 59", nil},
		{leaf(api.OpRed, 63), 0, nil, "red 63", nil},

		{over(api.OpNeg, leaf(api.OpInt, 3)), 0, nil, "small 3, neg", nil},
		{numberOf(t, "abs(x)"), 0, nil, "var 0, abs", nil},
		{truthOf(t, "not d1"), 0, nil, "det 1, not", nil},
		{numberOf(t, "x + y - z"), 0, nil, "var 0, var 1, add, var 2, sub", nil},
		{numberOf(t, "x - (y - z)"), 0, nil, "var 0, var 1, var 2, sub, sub", nil},
		{numberOf(t, "x * y / z % t0"), 0, nil, "var 0, var 1, mul, var 2, div, timer 0, rem", nil},
		{numberOf(t, "min(x, max(c1, elapsed))"), 0, nil, "var 0, counter 1, elapsed, max, min", nil},
		{truthOf(t, "x == y"), 0, nil, "var 0, var 1, eq", nil},
		{truthOf(t, "x != y"), 0, nil, "var 0, var 1, ne", nil},
		{truthOf(t, "x <= y"), 0, nil, "var 0, var 1, le", nil},
		{truthOf(t, "x > y"), 0, nil, "var 0, var 1, gt", nil},
		{truthOf(t, "x >= y"), 0, nil, "var 0, var 1, ge", nil},
		{truthOf(t, "green(g0) == red(g1)"), 0, nil, "green 0, red 1, eq", nil},

		{truthOf(t, "d0 and d1"), 0, nil, "det 0, andjump 3, det 1", nil},
		{truthOf(t, "d0 and (d1 and d2)"), 0, nil, "det 0, andjump 5, det 1, andjump 5, det 2", nil},
		{truthOf(t, "d0 and d1 and d2"), 7, nil, "det 0, andjump 10, det 1, andjump 12, det 2", nil},
		{truthOf(t, "(d0 or d1) and (d2 or d0)"), 1, nil, "det 0, orjump 4, det 1, andjump 8, det 2, orjump 8, det 0", nil},
		{truthOf(t, "not (d0 and d1) or d2"), 0, nil, "det 0, andjump 3, det 1, not, orjump 6, det 2", nil},
		{truthOf(t, "(d0 and d1) == (d1 or d2)"), 0, nil, "det 0, andjump 3, det 1, det 1, orjump 6, det 2, eq", nil},
		{truthOf(t, "d0 or not (x > 500 and d1)"), 100, []int32{500}, "det 0, orjump 108, var 0, const 0, gt, andjump 107, det 1, not", []int32{500}},
	} {
		list, pool, e := code.Expr(c.e, c.at, c.pool)
		if e != api.OK || !same(list, written(c.want)) || !same(pool, c.grow) {
			t.Errorf("Expr(%v, %d, %v) = %s, %v, %d, want %s, %v", c.e, c.at, c.pool, told(list), pool, e, c.want, c.grow)
		}
	}
}

// P11.1: a word's place in the pool is the first one that holds it; the pool grows at its end, in the order of the code.
func TestPool(t *testing.T) {
	t.Parallel()
	for _, c := range []struct {
		e    []api.Node
		pool []int32
		want string
		grow []int32
	}{
		{numberOf(t, "500"), []int32{500}, "const 0", []int32{500}},
		{numberOf(t, "500"), []int32{1, 500, 2, 500, 500}, "const 1", []int32{1, 500, 2, 500, 500}},
		{numberOf(t, "500"), []int32{5, 5, 0, 0}, "const 4", []int32{5, 5, 0, 0, 500}},
		{numberOf(t, "300 - 200 + 300 * 400"), nil, "const 0, const 1, sub, const 0, const 2, mul, add", []int32{300, 200, 400}},
		{numberOf(t, "300 - (200 - 300)"), []int32{200, 200}, "const 2, const 0, const 2, sub, sub", []int32{200, 200, 300}},
		{numberOf(t, "5"), []int32{5, 5}, "small 5", []int32{5, 5}},
		{numberOf(t, "127 + 128"), []int32{127}, "small 127, const 1, add", []int32{127, 128}},
		{over(api.OpAdd, leaf(api.OpInt, -500), leaf(api.OpInt, 500)), []int32{500}, "const 1, const 0, add", []int32{500, -500}},
		{truthOf(t, "d0 and x < 900 or y < 800"), nil, "det 0, andjump 5, var 0, const 0, lt, orjump 9, var 1, const 1, lt", []int32{900, 800}},
		{truthOf(t, "d0"), []int32{9, 8, 9}, "det 0", []int32{9, 8, 9}},
	} {
		list, pool, e := code.Expr(c.e, 0, c.pool)
		if e != api.OK || !same(list, written(c.want)) || !same(pool, c.grow) {
			t.Errorf("Expr(%v, 0, %v) = %s, %v, %d, want %s, %v", c.e, c.pool, told(list), pool, e, c.want, c.grow)
		}
	}
}

// P11.1: what is no expression of any plan is refused, whatever the place and the pool.
func TestExprRefused(t *testing.T) {
	t.Parallel()
	for i, e := range [][]api.Node{
		nil,
		{},
		{{Op: api.OpName, Name: "a"}},
		{{Op: api.OpName}},
		{node(0, 0)}, {node(-1, 0)}, {node(11, 0)}, {node(19, 0)}, {node(52, 0)}, {node(1<<40, 0)},
		{node(api.InSmall, 5)},
		leaf(api.OpVar, 64), leaf(api.OpVar, -1), leaf(api.OpTimer, 64), leaf(api.OpCounter, 64), leaf(api.OpDet, 64), leaf(api.OpGreen, 64), leaf(api.OpRed, -1),
		leaf(api.OpBool, 2), leaf(api.OpBool, -1), leaf(api.OpElapsed, 1),
		{node(api.OpInt, 1), node(api.OpInt, 2)},
		{node(api.OpAdd, 0)}, {node(api.OpInt, 1), node(api.OpAdd, 0)}, {node(api.OpNot, 0)},
		{node(api.OpInt, 1), node(api.OpInt, 2), node(api.OpAdd, 1)},
		{{Op: api.OpInt, Val: 1, Name: "a"}}, {{Op: api.OpInt, Val: 1, At: api.Pos{Line: 1}}}, {{Op: api.OpInt, Val: 1, At: api.Pos{Col: 1}}},
		over(api.OpAnd, leaf(api.OpInt, 1), leaf(api.OpBool, 1)),
		over(api.OpAdd, leaf(api.OpBool, 1), leaf(api.OpBool, 1)),
		over(api.OpEq, leaf(api.OpBool, 1), leaf(api.OpInt, 1)),
		over(api.OpNot, leaf(api.OpInt, 1)), over(api.OpNeg, leaf(api.OpBool, 1)),
		over(api.OpNeg, chain(api.OpAdd, api.OpInt, 1, 128), nil, leaf(api.OpInt, 1)),
		chain(api.OpAdd, api.OpInt, 1, 129),
		repeated(api.OpNeg, leaf(api.OpInt, 1), 65),
		rightDeep(api.OpSub, leaf(api.OpVar, 1), 67),
		rightDeep(api.OpMax, leaf(api.OpInt, 700), 66),
		make([]api.Node, 1<<20),
	} {
		for _, at := range []int{0, -1, 65536, 1<<63 - 1} {
			for _, pool := range [][]int32{nil, make([]int32, 16385)} {
				if list, grown, errno := code.Expr(e, at, pool); errno != api.ErrExpr || len(list)+len(grown) != 0 {
					t.Errorf("%d: Expr(%.300s, %d, %d words) = %s, %v, %d", i, fmt.Sprint(e), at, len(pool), told(list), grown, errno)
				}
			}
		}
	}
}

// P11.1: the greatest expressions are let in.
func TestExprAtItsLimits(t *testing.T) {
	t.Parallel()
	for i, e := range [][]api.Node{
		over(api.OpNeg, chain(api.OpAdd, api.OpInt, 1, 128)),
		over(api.OpNot, chainOfDets(128)),
		repeated(api.OpNeg, leaf(api.OpInt, 1), 64),
		repeated(api.OpNot, leaf(api.OpDet, 63), 64),
		rightDeep(api.OpSub, leaf(api.OpVar, 1), 66),
		rightDeep(api.OpAnd, leaf(api.OpDet, 1), 66),
		rightDeep(api.OpMax, leaf(api.OpInt, 700), 65),
	} {
		list, pool, errno := code.Expr(e, 5, nil)
		want, grown, _ := modelExpr(e, 5, nil)
		if errno != api.OK || !same(list, want) || !same(pool, grown) {
			t.Errorf("%d: %s, %v, %d, want %s, %v", i, told(list), pool, errno, told(want), grown)
		}
	}
}

// chainOfDets is an or of that many detectors.
func chainOfDets(count int) []api.Node {
	e := leaf(api.OpDet, 0)
	for i := 1; i < count; i++ {
		e = over(api.OpOr, e, leaf(api.OpDet, int32(i%64)))
	}
	return e
}

// rightDeep is an operator over so many of the same operand, each in the second operand of the one ahead.
func rightDeep(op int, one []api.Node, count int) []api.Node {
	e := one
	for i := 1; i < count; i++ {
		e = over(op, one, e)
	}
	return e
}

// P11.1: a place is one of MaxCode, and so is the code's end; the sum does not wrap.
func TestExprPlaces(t *testing.T) {
	t.Parallel()
	three, long := truthOf(t, "d0 and d1"), over(api.OpNeg, chain(api.OpAdd, api.OpInt, 1, 128))
	for _, c := range []struct {
		e    []api.Node
		at   int
		want api.Errno
	}{
		{three, 0, api.OK}, {three, 65532, api.OK}, {three, 65533, api.OK}, {three, 65534, api.ErrFull}, {three, 65535, api.ErrFull}, {three, 65536, api.ErrFull},
		{three, -1, api.ErrFull}, {three, -1 << 63, api.ErrFull}, {three, 1<<63 - 1, api.ErrFull}, {three, 1<<63 - 3, api.ErrFull}, {three, 1 << 32, api.ErrFull}, {three, -1 << 32, api.ErrFull}, {three, 1<<32 + 5, api.ErrFull},
		{leaf(api.OpInt, 5), 65535, api.OK}, {leaf(api.OpInt, 5), 65536, api.ErrFull},
		{long, 65536 - 256, api.OK}, {long, 65536 - 255, api.ErrFull},
	} {
		list, pool, e := code.Expr(c.e, c.at, nil)
		want, grown, f := modelExpr(c.e, c.at, nil)
		if e != c.want || f != c.want || !same(list, want) || !same(pool, grown) {
			t.Errorf("Expr(%v, %d): %s, %v, %d, want %s, %v, %d", c.e, c.at, told(list), pool, e, told(want), grown, c.want)
		}
	}
	if list, _ := exprCode(t, three, 65533, nil); list[1].Arg != 65536 {
		t.Errorf("%s: a jump behind the last place", told(list))
	}
}

// P11.1: the pool that is handed in and the one that comes out have at most MaxPool words.
func TestExprPools(t *testing.T) {
	t.Parallel()
	rising := func(count int) []int32 {
		list := make([]int32, count)
		for i := range list {
			list[i] = int32(i + 1000)
		}
		return list
	}
	for _, c := range []struct {
		text  string
		count int
		want  api.Errno
	}{
		{"5", 16384, api.OK}, {"5", 16385, api.ErrFull}, {"x", 20000, api.ErrFull},
		{"17383", 16384, api.OK}, {"1000 + 17383", 16384, api.OK}, {"17384", 16384, api.ErrFull}, {"999", 16384, api.ErrFull},
		{"17383", 16383, api.OK}, {"17383 + 17383", 16383, api.OK}, {"17383 + 17384", 16383, api.ErrFull}, {"17382 + 17383", 16382, api.OK},
		{"1000", 16385, api.ErrFull},
	} {
		e, pool := numberOf(t, c.text), rising(c.count)
		list, grown, errno := code.Expr(e, 0, pool)
		want, more, f := modelExpr(e, 0, pool)
		if errno != c.want || f != c.want || !same(list, want) || !same(grown, more) {
			t.Errorf("Expr(%s, 0, %d words): %s, %d words, %d, want %s, %d words, %d", c.text, c.count, told(list), len(grown), errno, told(want), len(more), c.want)
		}
	}
}

// P11.1, P11.3: expressions at random, against the model.
func TestExprAtRandom(t *testing.T) {
	t.Parallel()
	r := rand.New(rand.NewSource(1))
	for n := range 6000 {
		m := anyMaker(r)
		if n%3 == 0 {
			m = fullMaker(r)
		}
		e, pool := m.either(), m.pool()
		at := pick(r, 0, 1, r.Intn(100), r.Intn(65536), 65536-len(e), 65537-len(e), 65536-r.Intn(50), -r.Intn(3))
		list, grown, errno := code.Expr(e, at, pool)
		want, more, f := modelExpr(e, at, pool)
		if errno != f || !same(list, want) || !same(grown, more) {
			t.Fatalf("Expr(%v, %d, %v) = %s, %v, %d, want %s, %v, %d", e, at, pool, told(list), grown, errno, told(want), more, f)
		}
		if d := code.Depth(e); d != branchOf(e).deep() {
			t.Fatalf("Depth(%v) = %d, want %d", e, d, branchOf(e).deep())
		}
	}
}

// P11.1, P11.3: just what check.SoundExpr takes over any plan is taken.
func TestSpoiltExpr(t *testing.T) {
	t.Parallel()
	r := rand.New(rand.NewSource(2))
	any64 := fullMaker(r).things()
	refused := 0
	for range 6000 {
		e := spoilt(r, fullMaker(r).either())
		sound := check.SoundExpr(any64, e, api.TyInt) || check.SoundExpr(any64, e, api.TyBool)
		list, pool, errno := code.Expr(e, 0, nil)
		depth := code.Depth(e)
		if !sound {
			refused++
			if errno != api.ErrExpr || len(list)+len(pool) != 0 || depth != -1 {
				t.Fatalf("%v is not sound: %s, %v, %d, depth %d", e, told(list), pool, errno, depth)
			}
			continue
		}
		want, grown, _ := modelExpr(e, 0, nil)
		if errno != api.OK || !same(list, want) || !same(pool, grown) || depth != branchOf(e).deep() {
			t.Fatalf("%v: %s, %v, %d, depth %d, want %s, %v", e, told(list), pool, errno, depth, told(want), grown)
		}
	}
	if refused < 1000 || refused > 5500 {
		t.Errorf("%d of 6000 are refused", refused)
	}
}

// P11.3: the chapter's examples, each row, and what is refused.
func TestDepth(t *testing.T) {
	t.Parallel()
	a, b, c := leaf(api.OpVar, 0), leaf(api.OpVar, 1), leaf(api.OpVar, 2)
	d := leaf(api.OpDet, 0)
	lt := over(api.OpLt, leaf(api.OpInt, 1), leaf(api.OpInt, 2))
	for i, x := range []struct {
		e    []api.Node
		want int
	}{
		{over(api.OpMul, over(api.OpAdd, a, b), c), 2},
		{over(api.OpAdd, a, over(api.OpMul, b, c)), 3},
		{over(api.OpAnd, lt, lt), 2},
		{a, 1}, {d, 1}, {leaf(api.OpElapsed, 0), 1}, {leaf(api.OpInt, most), 1}, {leaf(api.OpBool, 1), 1},
		{over(api.OpNeg, a), 1}, {over(api.OpAbs, a), 1}, {over(api.OpNot, d), 1}, {over(api.OpNot, lt), 2},
		{over(api.OpAnd, d, d), 1}, {over(api.OpOr, d, d), 1}, {over(api.OpOr, d, lt), 2}, {over(api.OpOr, lt, d), 2}, {over(api.OpAnd, d, lt), 2},
		{over(api.OpEq, d, d), 2}, {over(api.OpEq, lt, d), 2}, {over(api.OpEq, d, lt), 3}, {over(api.OpNe, lt, lt), 3},
		{over(api.OpMin, a, b), 2}, {over(api.OpMax, a, over(api.OpMin, b, c)), 3}, {over(api.OpMax, over(api.OpMin, a, b), over(api.OpMin, b, c)), 3},
		{over(api.OpEq, d, over(api.OpAnd, d, d)), 2}, {over(api.OpAnd, over(api.OpEq, d, lt), d), 3}, {over(api.OpAnd, d, over(api.OpEq, d, lt)), 3},
		{chain(api.OpAdd, api.OpInt, 1, 128), 2}, {rightDeep(api.OpSub, a, 66), 66}, {rightDeep(api.OpSub, a, 67), -1}, {rightDeep(api.OpOr, d, 66), 1}, {repeated(api.OpNeg, a, 64), 1},
		{nil, -1}, {over(api.OpAdd, a), -1}, {append(a[:1:1], b...), -1}, {over(api.OpAdd, a, d), -1}, {over(api.OpAnd, a, a), -1}, {leaf(api.OpVar, 64), -1}, {leaf(api.OpGreen, -1), -1},
		{[]api.Node{{Op: api.OpName, Name: "a"}}, -1}, {chain(api.OpAdd, api.OpInt, 1, 129), -1}, {repeated(api.OpNeg, a, 65), -1}, {leaf(60, 0), -1},
	} {
		if got := code.Depth(x.e); got != x.want {
			t.Errorf("%d: Depth(%v) = %d, want %d", i, x.e, got, x.want)
		}
	}
}
