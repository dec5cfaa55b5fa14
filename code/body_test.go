package code_test

import (
	"fmt"
	"math/rand"
	"slices"
	"testing"

	"junction/api"
	"junction/check"
	"junction/code"
)

// P11.2: the chapter's examples, and each row of its table.
func TestBody(t *testing.T) {
	t.Parallel()
	for _, c := range []struct {
		text string
		at   int
		pool []int32
		want string
		grow []int32
	}{
		{"if true { run t1; }", 4, nil, "truth 1, if 7, run 1", nil},
		{"if d0 { } else { count c1; }", 0, nil, "det 0, if 3, jump 4, count 1", nil},
		{"if d0 { }", 0, nil, "det 0, if 2", nil},

		{"", 0, nil, "", nil},
		{"", 65536, []int32{7, 7}, "", []int32{7, 7}},
		{"x = 5;", 0, nil, "small 5, store 0", nil},
		{"z = 1000;", 0, []int32{3}, "const 1, store 2", []int32{3, 1000}},
		{"reset t1;", 0, nil, "reset 1", nil},
		{"reset c1;", 0, nil, "zero 1", nil},
		{"run t0; stop t1; count c0; clear d1;", 0, nil, "run 0, stop 1, count 0, clear 1", nil},
		{"if d0 { } else { }", 9, nil, "det 0, if 12, jump 12", nil},
		{"if d0 { run t0; } else { }", 0, nil, "det 0, if 4, run 0, jump 4", nil},
		{"if d0 { run t0; } else { stop t0; }", 0, nil, "det 0, if 4, run 0, jump 5, stop 0", nil},
		{"if d0 { run t0; } else { stop t0; } count c0;", 20, nil, "det 0, if 24, run 0, jump 25, stop 0, count 0", nil},
		{"if d0 { if d1 { run t0; } }", 0, nil, "det 0, if 5, det 1, if 5, run 0", nil},
		{"if d0 { if d1 { } else { } } else { if d2 { } }", 0, nil, "det 0, if 6, det 1, if 5, jump 5, jump 8, det 2, if 8", nil},
		{"if d0 { run t0; } else if d1 { stop t0; } else { reset t0; }", 0, nil, "det 0, if 4, run 0, jump 9, det 1, if 8, stop 0, jump 9, reset 0", nil},
		{"if d0 { x = 1; } if d1 { y = 2; }", 0, nil, "det 0, if 4, small 1, store 0, det 1, if 8, small 2, store 1", nil},
		{"if d0 and d1 { x = 1; }", 3, nil, "det 0, andjump 6, det 1, if 9, small 1, store 0", nil},
		{"x = 900; if y > 800 or d0 { y = 900; } else { z = 700; }", 0, []int32{900, 1}, "const 0, store 0, var 1, const 2, gt, orjump 7, det 0, if 11, const 0, store 1, jump 13, const 3, store 2", []int32{900, 1, 800, 700}},
	} {
		l := bodyOf(t, c.text)
		list, pool, e := code.Body(l, c.at, c.pool)
		if e != api.OK || !same(list, written(c.want)) || !same(pool, c.grow) {
			t.Errorf("Body(%s, %d, %v) = %s, %v, %d, want %s, %v", c.text, c.at, c.pool, told(list), pool, e, c.want, c.grow)
		}
	}
}

// P11.2: each kind that is one instruction, at the ends of its table.
func TestPlainStatements(t *testing.T) {
	t.Parallel()
	for kind, word := range map[int]string{api.StReset: "reset", api.StZero: "zero", api.StRun: "run", api.StStop: "stop", api.StCount: "count", api.StClear: "clear"} {
		for _, ix := range []int{0, 1, 63} {
			list, pool, e := code.Body([]api.Stmt{{Kind: kind, Ix: ix}}, 0, nil)
			if want := written(fmt.Sprint(word, " ", ix)); e != api.OK || !same(list, want) || len(pool) != 0 {
				t.Errorf("%s %d: %s, %v, %d", word, ix, told(list), pool, e)
			}
		}
		for _, ix := range []int{-1, 64, 1 << 32, -1 << 63} {
			if list, pool, e := code.Body([]api.Stmt{{Kind: kind, Ix: ix}}, 0, nil); e != api.ErrTyped || len(list)+len(pool) != 0 {
				t.Errorf("%s %d: %s, %v, %d", word, ix, told(list), pool, e)
			}
		}
	}
	l := []api.Stmt{{Kind: api.StSet, Ix: 63, Expr: leaf(api.OpVar, 63)}}
	if list, _ := bodyCode(t, l, 0, nil); !same(list, written("var 63, store 63")) {
		t.Errorf("the last variable: %s", told(list))
	}
}

// ifs is so many ifs within one another.
func ifs(count int) []api.Stmt {
	l := slices.Repeat([]api.Stmt{{Kind: api.StIf, Expr: leaf(api.OpDet, 0)}}, count)
	return append(l, slices.Repeat([]api.Stmt{{Kind: api.StEnd}}, count)...)
}

// P11.2: what is no sound list over any plan is refused, whatever the place and the pool.
func TestBodyRefused(t *testing.T) {
	t.Parallel()
	yes, number := leaf(api.OpBool, 1), leaf(api.OpInt, 1)
	end := api.Stmt{Kind: api.StEnd}
	for i, l := range [][]api.Stmt{
		{{}},
		{{Kind: -1}}, {{Kind: 11}}, {{Kind: 1 << 40}},
		{{Kind: api.StRun, Name: "a"}}, {{Kind: api.StRun, At: api.Pos{Line: 1}}}, {{Kind: api.StRun, At: api.Pos{Col: 1}}},
		{{Kind: api.StRun, Expr: number}}, {{Kind: api.StCount, Expr: yes}}, {{Kind: api.StClear, Expr: make([]api.Node, 5000)}},
		{{Kind: api.StSet}}, {{Kind: api.StSet, Expr: yes}}, {{Kind: api.StSet, Ix: 64, Expr: number}}, {{Kind: api.StSet, Ix: -1, Expr: number}},
		{{Kind: api.StSet, Expr: leaf(api.OpVar, 64)}}, {{Kind: api.StSet, Expr: chain(api.OpAdd, api.OpInt, 1, 129)}}, {{Kind: api.StSet, Name: "x", Expr: number}},
		{{Kind: api.StIf}, end}, {{Kind: api.StIf, Expr: number}, end}, {{Kind: api.StIf, Ix: 1, Expr: yes}, end}, {{Kind: api.StIf, Expr: leaf(api.OpDet, -1)}, end},
		{{Kind: api.StIf, Expr: yes}}, {end}, {{Kind: api.StElse}}, {{Kind: api.StElse}, end},
		{{Kind: api.StIf, Expr: yes}, end, end}, {{Kind: api.StIf, Expr: yes}, {Kind: api.StElse}}, {{Kind: api.StIf, Expr: yes}, end, {Kind: api.StElse}},
		{{Kind: api.StIf, Expr: yes}, {Kind: api.StElse}, {Kind: api.StElse}, end},
		{{Kind: api.StIf, Expr: yes}, {Kind: api.StElse, Ix: 1}, end}, {{Kind: api.StIf, Expr: yes}, {Kind: api.StElse}, {Kind: api.StEnd, Ix: 1}},
		{{Kind: api.StIf, Expr: yes}, {Kind: api.StElse, Expr: yes}, end}, {{Kind: api.StIf, Expr: yes}, {Kind: api.StEnd, Expr: yes}},
		ifs(17),
		slices.Repeat([]api.Stmt{{Kind: api.StRun}}, 4097),
		make([]api.Stmt, 1<<20),
	} {
		for _, at := range []int{0, -1, 65536, 1<<63 - 1} {
			for _, pool := range [][]int32{nil, make([]int32, 16385)} {
				if list, grown, e := code.Body(l, at, pool); e != api.ErrTyped || len(list)+len(grown) != 0 {
					t.Errorf("%d: Body(%.300s, %d, %d words) = %s, %v, %d", i, fmt.Sprint(l), at, len(pool), told(list), grown, e)
				}
			}
		}
	}
}

// P11.2: 16 ifs within one another and 4096 statements are let in, and there may be as many nodes in all as the code has room for.
func TestBodyAtItsLimits(t *testing.T) {
	t.Parallel()
	long := over(api.OpNeg, chain(api.OpAdd, api.OpInt, 1, 128)) // 256 nodes
	set := api.Stmt{Kind: api.StSet, Expr: long}
	full := slices.Concat(slices.Repeat([]api.Stmt{set}, 255), []api.Stmt{{Kind: api.StRun}}) // 255 times 257 instructions, and one
	within := slices.Concat([]api.Stmt{{Kind: api.StIf, Expr: leaf(api.OpDet, 1)}}, full[2:], []api.Stmt{{Kind: api.StElse}, {Kind: api.StEnd}})
	for i, c := range []struct {
		l    []api.Stmt
		at   int
		want api.Errno
	}{
		{ifs(16), 0, api.OK},
		{slices.Repeat([]api.Stmt{{Kind: api.StIf, Expr: over(api.OpNot, chainOfDets(128))}, {Kind: api.StEnd}}, 255), 0, api.OK},
		{slices.Repeat([]api.Stmt{{Kind: api.StIf, Expr: over(api.OpNot, chainOfDets(128))}, {Kind: api.StEnd}}, 256), 0, api.ErrFull},
		{append(ifs(16), ifs(16)...), 0, api.OK},
		{slices.Repeat([]api.Stmt{{Kind: api.StRun}}, 4096), 0, api.OK},
		{slices.Repeat([]api.Stmt{{Kind: api.StRun}}, 4096), 65536 - 4096, api.OK},
		{slices.Repeat([]api.Stmt{{Kind: api.StRun}}, 4096), 65537 - 4096, api.ErrFull},
		{slices.Repeat(ifs(16), 128), 0, api.OK},
		{full, 0, api.OK},
		{full, 1, api.ErrFull},
		{full, -1, api.ErrFull},
		{slices.Concat(full, []api.Stmt{{Kind: api.StRun}}), 0, api.ErrFull},
		{within, 514 - 3, api.OK},
		{within, 514 - 2, api.ErrFull},
		{slices.Repeat([]api.Stmt{set}, 4096), 0, api.ErrFull},
		{nil, 65536, api.OK}, {nil, 65537, api.ErrFull}, {nil, -1, api.ErrFull}, {nil, 1<<63 - 1, api.ErrFull}, {nil, -1 << 63, api.ErrFull},
	} {
		list, pool, e := code.Body(c.l, c.at, nil)
		want, grown, f := modelBody(c.l, c.at, nil)
		if e != c.want || f != c.want || !same(list, want) || !same(pool, grown) {
			t.Errorf("%d: %d instructions, %d words, %d, want %d, %d, %d", i, len(list), len(pool), e, len(want), len(grown), c.want)
		}
	}
}

// P11.2: a list may let the pool grow up to MaxPool words and not beyond.
func TestBodyPools(t *testing.T) {
	t.Parallel()
	var l []api.Stmt
	for i := range int32(128) {
		l = append(l, api.Stmt{Kind: api.StSet, Expr: chain(api.OpAdd, api.OpInt, 1000+128*i, 128)})
	}
	one := []api.Stmt{{Kind: api.StSet, Expr: leaf(api.OpInt, 999)}}
	old := []api.Stmt{{Kind: api.StSet, Expr: leaf(api.OpInt, 1000)}}
	for i, c := range []struct {
		l    []api.Stmt
		pool []int32
		want api.Errno
	}{
		{l, nil, api.OK},
		{append(l[:128:128], old...), nil, api.OK},
		{append(l[:128:128], one...), nil, api.ErrFull},
		{l, []int32{1000}, api.OK},
		{l, []int32{999}, api.ErrFull},
		{l[1:], make([]int32, 128), api.OK},
		{l[1:], make([]int32, 129), api.ErrFull},
		{nil, make([]int32, 16384), api.OK},
		{nil, make([]int32, 16385), api.ErrFull},
		{one, make([]int32, 16384), api.ErrFull},
		{one, make([]int32, 16383), api.OK},
		{[]api.Stmt{{Kind: api.StRun}}, make([]int32, 16385), api.ErrFull},
	} {
		list, pool, e := code.Body(c.l, 0, c.pool)
		want, grown, f := modelBody(c.l, 0, c.pool)
		if e != c.want || f != c.want || !same(list, want) || !same(pool, grown) {
			t.Errorf("%d: %d instructions, %d words, %d, want %d, %d, %d", i, len(list), len(pool), e, len(want), len(grown), c.want)
		}
	}
}

// P11.2: lists at random, against the model.
func TestBodyAtRandom(t *testing.T) {
	t.Parallel()
	r := rand.New(rand.NewSource(3))
	for n := range 3000 {
		m := anyMaker(r)
		if n%3 == 0 {
			m = fullMaker(r)
		}
		l, pool := m.list(3), m.pool()
		at := pick(r, 0, 1, r.Intn(100), r.Intn(65536), 65536-r.Intn(30), -r.Intn(3))
		list, grown, e := code.Body(l, at, pool)
		want, more, f := modelBody(l, at, pool)
		if e != f || !same(list, want) || !same(grown, more) {
			t.Fatalf("Body(%v, %d, %v) = %s, %v, %d, want %s, %v, %d", l, at, pool, told(list), grown, e, told(want), more, f)
		}
	}
}

// P11.2: just the lists are taken that a plan with all things may have.
func TestSpoiltBody(t *testing.T) {
	t.Parallel()
	r := rand.New(rand.NewSource(4))
	x := fullMaker(r).things()
	refused := 0
	for range 3000 {
		l := spoilt(r, fullMaker(r).list(3))
		x.Stages = []api.TStage{{Name: "s", Enter: l}}
		list, pool, e := code.Body(l, 0, nil)
		if !check.Sound(x) {
			refused++
			if e != api.ErrTyped || len(list)+len(pool) != 0 {
				t.Fatalf("%v is not sound: %s, %v, %d", l, told(list), pool, e)
			}
			continue
		}
		want, grown, _ := modelBody(l, 0, nil)
		if e != api.OK || !same(list, want) || !same(pool, grown) {
			t.Fatalf("%v: %s, %v, %d, want %s, %v", l, told(list), pool, e, told(want), grown)
		}
	}
	if refused < 500 || refused > 2800 {
		t.Errorf("%d of 3000 are refused", refused)
	}
}
