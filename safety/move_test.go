package safety_test

import (
	"math"
	"math/rand"
	"testing"

	"junction/api"
	"junction/safety"
)

// P6.1: Inter, of any tables.
func TestInter(t *testing.T) {
	odd := api.Tables{Conflicts: []api.Conflict{
		{A: 3, B: 3, AB: 1, BA: 2},
		{A: 7, B: 2, AB: -3, BA: math.MaxInt},
		{A: 2, B: 7, AB: 5, BA: 6},
		{A: math.MinInt, B: math.MaxInt, AB: math.MinInt, BA: 9},
		{A: 4, B: 5, AB: 0, BA: 0},
		{A: 3, B: 3, AB: 8, BA: 8},
		{A: 4, B: 4, AB: 11, BA: 12},
	}}
	for i, c := range []struct {
		tables  api.Tables
		a, b, n int
		ok      bool
	}{
		{three(), 0, 1, 4, true},
		{three(), 1, 0, 5, true},
		{three(), 0, 2, 6, true},
		{three(), 2, 0, 8, true},
		{three(), 1, 2, 0, false},
		{three(), 2, 1, 0, false},
		{three(), 0, 0, 0, false},
		{three(), 1, 1, 0, false},
		{three(), -1, 0, 0, false},
		{three(), 0, 64, 0, false},
		{three(), math.MinInt, math.MaxInt, 0, false},
		{api.Tables{}, 0, 1, 0, false},
		{odd, 3, 3, 1, true},
		{odd, 2, 7, math.MaxInt, true},
		{odd, 7, 2, -3, true},
		{odd, math.MinInt, math.MaxInt, math.MinInt, true},
		{odd, math.MaxInt, math.MinInt, 9, true},
		{odd, 4, 5, 0, true},
		{odd, 5, 4, 0, true},
		{odd, 4, 4, 11, true},
		{odd, 5, 5, 0, false},
		{odd, 3, 7, 0, false},
	} {
		if n, ok := safety.Inter(c.tables, c.a, c.b); n != c.n || ok != c.ok {
			t.Errorf("row %d: Inter(%d, %d) = %d, %v, want %d, %v", i, c.a, c.b, n, ok, c.n, c.ok)
		}
	}
}

// P6.2: Clash, of any tables.
func TestClash(t *testing.T) {
	many := api.Tables{Groups: make([]api.Group, 70), Conflicts: []api.Conflict{
		{A: 0, B: 64}, {A: 64, B: 0}, {A: -1, B: 1}, {A: 1, B: -1}, {A: math.MinInt, B: math.MaxInt}, {A: 65, B: 66}, {A: 63, B: 2}, {A: 1, B: 2}, {A: 0, B: 1},
	}}
	few := api.Tables{Groups: make([]api.Group, 2), Conflicts: []api.Conflict{{A: 0, B: 2}, {A: 2, B: 1}, {A: 1, B: 0}}}
	exact := api.Tables{Groups: make([]api.Group, 64), Conflicts: []api.Conflict{{A: 62, B: 63}}}
	twice := api.Tables{Groups: make([]api.Group, 3), Conflicts: []api.Conflict{{A: 2, B: 2}}}
	for i, c := range []struct {
		tables api.Tables
		mask   uint64
		a, b   int
		ok     bool
	}{
		{three(), 7, 0, 1, true},
		{three(), 6, -1, -1, false},
		{three(), 8 + 3, 0, 1, true},
		{three(), 5, 0, 2, true},
		{three(), 1, -1, -1, false},
		{three(), 0, -1, -1, false},
		{three(), ^uint64(7), -1, -1, false},
		{three(), ^uint64(0), 0, 1, true},
		{many, ^uint64(0), 63, 2, true},
		{many, 1<<63 | 4, 63, 2, true},
		{many, 6, 1, 2, true},
		{many, 3, 0, 1, true},
		{many, 5, -1, -1, false},
		{few, 7, 1, 0, true},
		{few, 5, -1, -1, false},
		{few, 6, -1, -1, false},
		{exact, 3 << 62, 62, 63, true},
		{exact, 1 << 63, -1, -1, false},
		{twice, 4, 2, 2, true},
		{twice, 3, -1, -1, false},
		{api.Tables{Conflicts: []api.Conflict{{A: 0, B: 0}}}, 1, -1, -1, false},
		{api.Tables{}, ^uint64(0), -1, -1, false},
	} {
		if a, b, ok := safety.Clash(c.tables, c.mask); a != c.a || b != c.b || ok != c.ok {
			t.Errorf("row %d: Clash(%d) = %d, %d, %v, want %d, %d, %v", i, c.mask, a, b, ok, c.a, c.b, c.ok)
		}
	}
}

// P6.3, P6.4, P6.5: the chapter's examples and their edges.
func TestMoves(t *testing.T) {
	const high = 1 << 63
	for _, c := range []struct {
		from, to            uint64
		span, longest, hold int
		e                   api.Errno
	}{
		{0, 0, 0, 0, 0, api.OK},
		{1, 1, 0, 0, 0, api.OK},
		{1, 2, 6, 6, 4, api.OK},
		{2, 1, 7, 10, 4, api.OK},
		{1, 6, 7, 7, 4, api.OK},
		{4, 1, 10, 10, 3, api.OK},
		{2, 6, 1, 7, 0, api.OK},
		{4, 6, 2, 6, 0, api.OK},
		{6, 4, 4, 4, 4, api.OK},
		{4, 0, 1, 1, 3, api.OK},
		{1, 0, 4, 4, 4, api.OK},
		{0, 1, 2, 10, 0, api.OK},
		{0, 4, 1, 7, 0, api.OK},
		{6, 1, 10, 10, 4, api.OK},
		// Bits of no group are not looked at.
		{8, 16, 0, 0, 0, api.OK},
		{high + 1, 8 + 2, 6, 6, 4, api.OK},
		{^uint64(7), 0, 0, 0, 0, api.OK},
		// A clash in either mask; Hold refuses none.
		{3, 0, 0, 0, 4, api.ErrClash},
		{5, 4, 0, 0, 4, api.ErrClash},
		{0, 3, 0, 0, 0, api.ErrClash},
		{7, 7, 0, 0, 0, api.ErrClash},
		{high + 7, 2, 0, 0, 4, api.ErrClash},
	} {
		if n, e := safety.Span(three(), c.from, c.to); n != c.span || e != c.e {
			t.Errorf("Span(%d, %d) = %d, %d, want %d, %d", c.from, c.to, n, e, c.span, c.e)
		}
		if n, e := safety.Longest(three(), c.from, c.to); n != c.longest || e != c.e {
			t.Errorf("Longest(%d, %d) = %d, %d, want %d, %d", c.from, c.to, n, e, c.longest, c.e)
		}
		if n, e := safety.Hold(three(), c.from, c.to); n != c.hold || e != api.OK {
			t.Errorf("Hold(%d, %d) = %d, %d, want %d", c.from, c.to, n, e, c.hold)
		}
	}
	// Where the intergreen is below the amber the amber counts, also of a foe that does not lose its green.
	short := three()
	short.Conflicts[0].AB = 1
	if n, _ := safety.Span(short, 1, 2); n != 5 {
		t.Errorf("Span is %d, want 5", n)
	}
	if n, _ := safety.Longest(short, 4, 6); n != 5 {
		t.Errorf("Longest is %d, want 5", n)
	}
	// The longest move that there is.
	slow := crowd(64)
	slow.Conflicts[len(slow.Conflicts)-1].AB = 3600
	slow.Groups[63].Lead = 60
	if n, e := safety.Span(slow, 1<<62, 1<<63); n != 3661 || e != api.OK {
		t.Errorf("Span is %d, %d, want 3661", n, e)
	}
}

// P6.3, P6.4, P6.5: tables that are not sound, whatever the masks are.
func TestUnsoundTables(t *testing.T) {
	for i, spoil := range []func(*api.Tables){
		func(x *api.Tables) { x.Groups[2].Sort = 0 },
		func(x *api.Tables) { x.Groups[2].Min = 0 },
		func(x *api.Tables) { x.Groups[1].Min = math.MaxInt },
		func(x *api.Tables) { x.Groups[0].Amber = 61 },
		func(x *api.Tables) { x.Groups[0].Lead = -1 },
		func(x *api.Tables) { x.Conflicts[1].AB = 3601 },
		func(x *api.Tables) { x.Conflicts[1].BA = math.MinInt },
		func(x *api.Tables) { x.Conflicts[1].B = 3 },
		func(x *api.Tables) { x.Conflicts[1].A = 2 },
		func(x *api.Tables) { x.Conflicts[0].A = -1 },
		func(x *api.Tables) { x.Conflicts[0] = x.Conflicts[1] },
		func(x *api.Tables) { x.Conflicts[0], x.Conflicts[1] = x.Conflicts[1], x.Conflicts[0] },
		func(x *api.Tables) { x.Groups = nil },
		func(x *api.Tables) { *x = crowd(65) },
	} {
		bad := three()
		spoil(&bad)
		for _, masks := range [][2]uint64{{0, 0}, {1, 2}, {3, 0}, {0, 7}, {^uint64(0), 1 << 63}} {
			for name, call := range map[string]func(api.Tables, uint64, uint64) (int, api.Errno){"Span": safety.Span, "Longest": safety.Longest, "Hold": safety.Hold} {
				if n, e := call(bad, masks[0], masks[1]); n != 0 || e != api.ErrTables {
					t.Errorf("row %d: %s(%d, %d) = %d, %d", i, name, masks[0], masks[1], n, e)
				}
			}
		}
	}
	// No groups at all are sound; names are not looked at.
	plain := three()
	plain.Groups[0].Name, plain.Groups[1].Name = "", "min"
	for i, x := range []api.Tables{{}, plain} {
		for _, call := range []func(api.Tables, uint64, uint64) (int, api.Errno){safety.Span, safety.Longest, safety.Hold} {
			if n, e := call(x, 8, 16); n != 0 || e != api.OK {
				t.Errorf("row %d: %d, %d", i, n, e)
			}
		}
	}
}

// P6.1 to P6.5: against the second way.
func TestMovesAtRandom(t *testing.T) {
	t.Parallel()
	r := rand.New(rand.NewSource(61))
	seen := map[api.Errno]int{}
	for range 20000 {
		tables := anyTables(r, pick(r, 0, 1, 2, 3, 5, 8, 13), r.Intn(2) == 0)
		calm := r.Intn(4) > 0
		from, to := anyMask(r, tables, calm), anyMask(r, tables, calm)
		for _, settled := range []bool{true, false} {
			call := safety.Longest
			if settled {
				call = safety.Span
			}
			want, e := modelMove(tables, from, to, settled)
			if n, f := call(tables, from, to); n != want || f != e {
				t.Fatalf("settled %v: %d, %d, want %d, %d of %x, %x in %+v", settled, n, f, want, e, from, to, tables)
			}
			seen[e]++
		}
		if n, e := safety.Hold(tables, from, to); n != modelHold(tables, from, to) || e != api.OK {
			t.Fatalf("Hold: %d, %d of %x, %x in %+v", n, e, from, to, tables)
		}
		a, b := r.Intn(15)-1, r.Intn(15)-1
		want := foe{}
		if a >= 0 && b >= 0 {
			want = gridOf(tables)[a][b]
		}
		if n, ok := safety.Inter(tables, a, b); n != want.inter || ok != want.is {
			t.Fatalf("Inter(%d, %d): %d, %v, want %v in %+v", a, b, n, ok, want, tables)
		}
		a, b, ok := safety.Clash(tables, from)
		if ok != modelClashes(tables, from) || ok && !(gridOf(tables)[a][b].is && from>>a&1 == 1 && from>>b&1 == 1) || !ok && (a != -1 || b != -1) {
			t.Fatalf("Clash(%x): %d, %d, %v in %+v", from, a, b, ok, tables)
		}
	}
	if seen[api.OK] < 5000 || seen[api.ErrClash] < 2000 {
		t.Errorf("too few of a kind: %v", seen)
	}
}
