package heads_test

import (
	"fmt"
	"math"
	"slices"
	"testing"

	"junction/api"
	"junction/heads"
)

// Short names for the rows of tables of cases.
const (
	red   = api.Red
	lead  = api.Lead
	green = api.Green
	amber = api.Amber
	top   = math.MaxInt32
	high  = ^uint64(3) // bits of no group where there are two
)

// unsound are tables that check.Grid refuses, each by one thing.
func unsound() []api.Tables {
	var list []api.Tables
	for _, spoil := range []func(*api.Tables){
		func(x *api.Tables) { x.Groups[0].Sort = 0 },
		func(x *api.Tables) { x.Groups[1].Sort = 3 },
		func(x *api.Tables) { x.Groups[1].Min = 0 },
		func(x *api.Tables) { x.Groups[1].Min = 3601 },
		func(x *api.Tables) { x.Groups[0].Amber = -1 },
		func(x *api.Tables) { x.Groups[0].Amber = 61 },
		func(x *api.Tables) { x.Groups[0].Lead = math.MinInt },
		func(x *api.Tables) { x.Groups[0].Lead = 61 },
		func(x *api.Tables) { x.Conflicts[0].A = -1 },
		func(x *api.Tables) { x.Conflicts[0].A = 1 },
		func(x *api.Tables) { x.Conflicts[0].B = 2 },
		func(x *api.Tables) { x.Conflicts[0].A, x.Conflicts[0].B = 1, 0 },
		func(x *api.Tables) { x.Conflicts[0].AB = 3601 },
		func(x *api.Tables) { x.Conflicts[0].BA = -1 },
		func(x *api.Tables) { x.Conflicts = append(x.Conflicts, x.Conflicts[0]) },
		func(x *api.Tables) {
			*x = crowd(3)
			slices.Reverse(x.Conflicts)
		},
		func(x *api.Tables) { x.Groups = nil },
		func(x *api.Tables) { *x = crowd(65) },
	} {
		x := two()
		spoil(&x)
		list = append(list, x)
	}
	return list
}

// P7.1: tick 0, of the least and the most groups, and with the greatest numbers.
func TestStart(t *testing.T) {
	wide := two()
	wide.Groups[0] = api.Group{Sort: api.Pedestrian, Min: 3600, Amber: 60, Lead: 60}
	wide.Conflicts[0].AB, wide.Conflicts[0].BA = 3600, 3600
	for i, x := range []api.Tables{{}, {Groups: []api.Group{}, Conflicts: []api.Conflict{}}, lone(1, 0, 0), two(), wide, crowd(64)} {
		h, e := heads.Start(x)
		if e != api.OK || len(h.Aspect) != len(x.Groups) || len(h.In) != len(x.Groups) || len(h.Away) != len(x.Groups) {
			t.Fatalf("row %d: Start = %v, %d", i, h, e)
		}
		for g := range x.Groups {
			if h.Aspect[g] != red || h.In[g] != 1 || h.Away[g] != 1 {
				t.Errorf("row %d: group %d: %v", i, g, h)
			}
		}
		if !heads.Sound(x, h) {
			t.Errorf("row %d: tick 0 is not sound", i)
		}
	}
}

// P7.1 to P7.4, P7.6: tables that are not sound, with heads that fit and with none.
func TestUnsoundTables(t *testing.T) {
	for i, x := range unsound() {
		fit := make([][3]int, len(x.Groups))
		for g := range fit {
			fit[g] = [3]int{red, 1, 1}
		}
		if h, e := heads.Start(x); e != api.ErrTables || !isEmpty(h) {
			t.Errorf("row %d: Start = %v, %d", i, h, e)
		}
		for _, h := range []api.Heads{headsOf(fit...), {}, headsOf([3]int{9, 9, 9})} {
			if n, e := heads.Step(x, h, 1); e != api.ErrTables || !isEmpty(n) {
				t.Errorf("row %d: Step = %v, %d", i, n, e)
			}
			if heads.Sound(x, h) || heads.Gate(x, h, 0) || heads.Settled(x, h, 0) {
				t.Errorf("row %d: sound, open or settled: %v", i, h)
			}
		}
		for _, wants := range [][]uint64{nil, {}, {1, 2}} {
			if list, e := heads.Run(x, wants); e != api.ErrTables || len(list) != 0 {
				t.Errorf("row %d: Run = %v, %d", i, list, e)
			}
		}
	}
}

// P7.2: each rule on both sides; and P7.3, P7.4: heads that are not sound are refused by Step, Gate and Settled.
func TestSound(t *testing.T) {
	x := two()
	x.Groups[0].Lead, x.Groups[0].Amber = 2, 3
	x.Groups[1].Lead, x.Groups[1].Amber = 0, 0
	loose := api.Tables{Groups: x.Groups}
	rest := [3]int{red, 1, 1}
	long := headsOf(rest, rest, rest)
	cut := func(n, m, k int) api.Heads {
		return api.Heads{Aspect: long.Aspect[:n], In: long.In[:m], Away: long.Away[:k]}
	}
	for i, c := range []struct {
		tables api.Tables
		h      api.Heads
		ok     bool
	}{
		{x, headsOf(rest, rest), true},
		{x, headsOf([3]int{red, top, top}, [3]int{red, 1, 3}), true},
		{x, headsOf([3]int{red, 9, 1}, rest), true},
		// Counts.
		{x, headsOf([3]int{red, 0, 1}, rest), false},
		{x, headsOf(rest, [3]int{red, -1, 1}), false},
		{x, headsOf([3]int{red, math.MinInt32, 1}, rest), false},
		{x, headsOf([3]int{green, 0, 0}, rest), false},
		{x, headsOf([3]int{red, 1, 0}, rest), false},
		{x, headsOf(rest, [3]int{red, 1, -1}), false},
		{x, headsOf(rest, [3]int{red, 1, math.MinInt32}), false},
		{x, headsOf([3]int{green, 1, 0}, rest), true},
		{x, headsOf([3]int{green, top, 0}, rest), true},
		{x, headsOf([3]int{green, 1, 1}, rest), false},
		{x, headsOf([3]int{green, 1, -1}, rest), false},
		{x, headsOf([3]int{green, 1, top}, rest), false},
		{x, headsOf([3]int{lead, 1, 0}, rest), false},
		{x, headsOf([3]int{amber, 1, 0}, rest), false},
		{x, headsOf([3]int{lead, 0, 1}, rest), false},
		{x, headsOf([3]int{amber, 0, 1}, rest), false},
		{x, headsOf([3]int{amber, -1, 1}, rest), false},
		// Lead and amber have an end.
		{x, headsOf([3]int{lead, 1, 1}, rest), true},
		{x, headsOf([3]int{lead, 2, top}, rest), true},
		{x, headsOf([3]int{lead, 3, 3}, rest), false},
		{x, headsOf([3]int{lead, top, 3}, rest), false},
		{x, headsOf([3]int{amber, 3, 1}, rest), true},
		{x, headsOf([3]int{amber, 4, 4}, rest), false},
		{x, headsOf(rest, [3]int{lead, 1, 1}), false},
		{x, headsOf(rest, [3]int{amber, 1, 1}), false},
		// Aspects.
		{x, headsOf([3]int{4, 1, 1}, rest), false},
		{x, headsOf([3]int{-1, 1, 1}, rest), false},
		{x, headsOf(rest, [3]int{math.MaxInt, 1, 1}), false},
		{x, headsOf([3]int{math.MinInt, 1, 1}, rest), false},
		{x, headsOf([3]int{1 << 32, 1, 1}, rest), false},
		{x, headsOf([3]int{4, 1, 0}, rest), false},
		// Conflicts.
		{x, headsOf([3]int{green, 1, 0}, [3]int{green, 1, 0}), false},
		{x, headsOf([3]int{lead, 1, 1}, [3]int{green, 1, 0}), false},
		{x, headsOf([3]int{amber, 1, 1}, [3]int{green, 1, 0}), false},
		{x, headsOf(rest, [3]int{green, 1, 0}), true},
		{loose, headsOf([3]int{green, 1, 0}, [3]int{green, 1, 0}), true},
		{loose, headsOf([3]int{lead, 1, 1}, [3]int{green, 1, 0}), true},
		{loose, headsOf([3]int{amber, 1, 1}, [3]int{green, 1, 0}), true},
		// Lengths.
		{x, cut(2, 2, 2), true},
		{x, cut(1, 2, 2), false},
		{x, cut(2, 1, 2), false},
		{x, cut(2, 2, 1), false},
		{x, cut(3, 2, 2), false},
		{x, cut(2, 3, 2), false},
		{x, cut(2, 2, 3), false},
		{x, cut(1, 1, 1), false},
		{x, cut(3, 3, 3), false},
		{x, cut(0, 0, 0), false},
		{x, cut(0, 2, 2), false},
		{x, api.Heads{}, false},
		{api.Tables{}, api.Heads{}, true},
		{api.Tables{}, cut(0, 0, 0), true},
		{api.Tables{}, cut(1, 1, 1), false},
		{api.Tables{}, cut(0, 0, 1), false},
	} {
		if ok := heads.Sound(c.tables, c.h); ok != c.ok {
			t.Errorf("row %d: Sound(%v) = %v", i, c.h, ok)
		}
		n, e := heads.Step(c.tables, c.h, 1)
		if c.ok && e != api.OK || !c.ok && (e != api.ErrHeads || !isEmpty(n)) {
			t.Errorf("row %d: Step of %v = %v, %d", i, c.h, n, e)
		}
		if !c.ok && (heads.Gate(c.tables, c.h, high|3) || heads.Settled(c.tables, c.h, 0) || heads.Settled(c.tables, c.h, 3)) {
			t.Errorf("row %d: %v is open or settled", i, c.h)
		}
	}
}

// P7.3: the first pass, of one group: each aspect at its time's end and just ahead of it, wanted or not.
func TestFirstPass(t *testing.T) {
	for i, c := range []struct {
		tables   api.Tables
		was      [3]int
		idle, on [3]int // behind a step in which the group is not wanted; in which it is
	}{
		{lone(3, 2, 2), [3]int{green, 1, 0}, [3]int{green, 2, 0}, [3]int{green, 2, 0}},
		{lone(3, 2, 2), [3]int{green, 2, 0}, [3]int{green, 3, 0}, [3]int{green, 3, 0}},
		{lone(3, 2, 2), [3]int{green, 3, 0}, [3]int{amber, 1, 1}, [3]int{green, 4, 0}},
		{lone(3, 2, 2), [3]int{green, 9, 0}, [3]int{amber, 1, 1}, [3]int{green, 10, 0}},
		{lone(3, 2, 2), [3]int{green, top, 0}, [3]int{amber, 1, 1}, [3]int{green, top, 0}},
		{lone(1, 0, 2), [3]int{green, 1, 0}, [3]int{red, 1, 1}, [3]int{green, 2, 0}},
		{lone(3600, 0, 0), [3]int{green, 3599, 0}, [3]int{green, 3600, 0}, [3]int{green, 3600, 0}},
		{lone(3600, 60, 0), [3]int{green, 3600, 0}, [3]int{amber, 1, 1}, [3]int{green, 3601, 0}},
		{lone(3, 2, 2), [3]int{amber, 1, 1}, [3]int{amber, 2, 2}, [3]int{amber, 2, 2}},
		{lone(3, 2, 2), [3]int{amber, 2, 2}, [3]int{red, 1, 3}, [3]int{red, 1, 3}},
		{lone(3, 1, 0), [3]int{amber, 1, top}, [3]int{red, 1, top}, [3]int{red, 1, top}},
		{lone(3, 60, 0), [3]int{amber, 59, 7}, [3]int{amber, 60, 8}, [3]int{amber, 60, 8}},
		{lone(3, 60, 0), [3]int{amber, 60, 8}, [3]int{red, 1, 9}, [3]int{red, 1, 9}},
		{lone(3, 2, 2), [3]int{lead, 1, 5}, [3]int{lead, 2, 6}, [3]int{lead, 2, 6}},
		{lone(3, 2, 2), [3]int{lead, 2, 6}, [3]int{green, 1, 0}, [3]int{green, 1, 0}},
		{lone(1, 0, 1), [3]int{lead, 1, top}, [3]int{green, 1, 0}, [3]int{green, 1, 0}},
		{lone(1, 0, 60), [3]int{lead, 59, top}, [3]int{lead, 60, top}, [3]int{lead, 60, top}},
		{lone(1, 0, 60), [3]int{lead, 60, top}, [3]int{green, 1, 0}, [3]int{green, 1, 0}},
		{lone(3, 2, 2), [3]int{red, 1, 1}, [3]int{red, 2, 2}, [3]int{lead, 1, 2}},
		{lone(3, 2, 0), [3]int{red, 4, 7}, [3]int{red, 5, 8}, [3]int{green, 1, 0}},
		{lone(3, 2, 1), [3]int{red, top, top}, [3]int{red, top, top}, [3]int{lead, 1, top}},
		{lone(3, 2, 1), [3]int{red, top - 1, top - 1}, [3]int{red, top, top}, [3]int{lead, 1, top}},
	} {
		for want, row := range map[uint64][3]int{0: c.idle, 1: c.on, ^uint64(1): c.idle, ^uint64(0): c.on} {
			h, e := heads.Step(c.tables, headsOf(c.was), want)
			if e != api.OK || !same(h, headsOf(row)) {
				t.Errorf("row %d, want %x: %v, %d, want %v", i, want, h, e, row)
			}
		}
	}
}

// step is the picture behind one step of heads that are sound.
func step(t *testing.T, x api.Tables, h api.Heads, want uint64) string {
	t.Helper()
	n, e := heads.Step(x, h, want)
	if e != api.OK {
		t.Fatalf("Step of %v: %d", h, e)
	}
	return heads.Show(n)
}

// P7.3: the second pass: intergreens, foes that are not red by now, and whose turn it is.
func TestSecondPass(t *testing.T) {
	x := two() // 3 from 0 to 1, 2 from 1 to 0
	free := two()
	free.Conflicts[0].AB, free.Conflicts[0].BA = 0, 0
	free.Groups[0].Amber = 0
	slow := two()
	slow.Groups[0].Amber, slow.Groups[0].Lead = 4, 1
	chain := crowd(3)
	chain.Conflicts = []api.Conflict{{A: 0, B: 1}, {A: 1, B: 2}}
	for i, c := range []struct {
		tables api.Tables
		h      api.Heads
		want   uint64
		shown  string
	}{
		// The foe's Away, not the group's own, against the intergreen from the foe.
		{x, headsOf([3]int{red, 1, 2}, [3]int{red, 9, 9}), 2, "rr"},
		{x, headsOf([3]int{red, 1, 3}, [3]int{red, 9, 9}), 2, "rg"},
		{x, headsOf([3]int{red, 1, 3}, [3]int{red, 1, 1}), 2, "rg"},
		{x, headsOf([3]int{red, 9, 9}, [3]int{red, 1, 1}), 1, "rr"},
		{x, headsOf([3]int{red, 9, 9}, [3]int{red, 1, 2}), 1, "gr"},
		{x, headsOf([3]int{red, 9, 1}, [3]int{red, 1, 2}), 1, "gr"},
		{x, headsOf([3]int{red, 1, top}, [3]int{red, 1, top}), 2, "rg"},
		// Away is that of h: the green that goes at this very step has none.
		{free, headsOf([3]int{green, 2, 0}, [3]int{red, 9, 9}), 2, "rg"},
		{free, headsOf([3]int{green, 1, 0}, [3]int{red, 9, 9}), 2, "gr"},
		{free, headsOf([3]int{red, 9, 9}, [3]int{green, 2, 0}), 1, "ra"},
		{free, headsOf([3]int{red, 9, 9}, [3]int{amber, 1, 1}), 1, "gr"},
		{x, headsOf([3]int{green, 2, 0}, [3]int{red, 9, 9}), 2, "ar"},
		// An amber or a lead that goes on holds the foe back, however long its Away is.
		{slow, headsOf([3]int{amber, 3, 9}, [3]int{red, 9, 9}), 2, "ar"},
		{slow, headsOf([3]int{amber, 4, 9}, [3]int{red, 9, 9}), 2, "rg"},
		{slow, headsOf([3]int{amber, 4, 2}, [3]int{red, 9, 9}), 2, "rr"},
		{slow, headsOf([3]int{lead, 1, 9}, [3]int{red, 9, 9}), 2, "gr"},
		// Both wanted: the lesser number, if it may start; else the other one.
		{x, headsOf([3]int{red, 9, 9}, [3]int{red, 9, 9}), 3, "gr"},
		{x, headsOf([3]int{red, 9, 9}, [3]int{red, 1, 1}), 3, "rg"},
		{slow, headsOf([3]int{red, 9, 9}, [3]int{red, 9, 9}), 3, "lr"},
		{x, headsOf([3]int{green, 9, 0}, [3]int{red, 9, 9}), 3, "gr"},
		{x, headsOf([3]int{red, 9, 9}, [3]int{green, 9, 0}), 3, "rg"},
		// One that only just became red does not start, wanted or not.
		{free, headsOf([3]int{red, 9, 9}, [3]int{amber, 1, 1}), 2, "rr"},
		{free, headsOf([3]int{green, 2, 0}, [3]int{red, 9, 9}), 0, "rr"},
		// A start holds back just its foes: 2 has none among those that start.
		{chain, headsOf([3]int{red, 9, 9}, [3]int{red, 9, 9}, [3]int{red, 9, 9}), 7, "lrl"},
		{chain, headsOf([3]int{red, 9, 9}, [3]int{red, 9, 9}, [3]int{red, 9, 9}), 6, "rlr"},
		{chain, headsOf([3]int{red, 9, 9}, [3]int{red, 9, 9}, [3]int{green, 9, 0}), 7, "lrg"},
		{chain, headsOf([3]int{red, 9, 9}, [3]int{green, 9, 0}, [3]int{red, 9, 9}), 7, "rgr"},
	} {
		if shown := step(t, c.tables, c.h, c.want); shown != c.shown {
			t.Errorf("row %d: %q, want %q", i, shown, c.shown)
		}
		if shown := step(t, c.tables, c.h, c.want|^uint64(7)); shown != c.shown {
			t.Errorf("row %d, high bits: %q, want %q", i, shown, c.shown)
		}
	}
}

// P7.3: the greatest numbers there are: 64 groups, an intergreen of 3600.
func TestStepAtLimits(t *testing.T) {
	x := crowd(64)
	last := len(x.Conflicts) - 1
	x.Conflicts[last].AB, x.Conflicts[last].BA = 3600, 3599
	rows := make([][3]int, 64)
	for g := range rows {
		rows[g] = [3]int{red, 9, 9}
	}
	picture := func(at int, letter string) string {
		all := []byte(heads.Show(headsOf(rows...)))
		copy(all[at:], letter)
		return string(all)
	}
	for i, c := range []struct {
		away  [2]int // of groups 62 and 63
		want  uint64
		shown string
	}{
		{[2]int{3599, 9}, 1 << 63, picture(63, "r")},
		{[2]int{3600, 9}, 1 << 63, picture(63, "l")},
		{[2]int{9, 3598}, 1 << 62, picture(62, "r")},
		{[2]int{9, 3599}, 1 << 62, picture(62, "l")},
		{[2]int{3600, 3599}, 3 << 62, picture(62, "l")},
		{[2]int{9, 9}, ^uint64(0), picture(0, "l")},
		{[2]int{9, 9}, 1<<63 | 1<<40, picture(40, "l")},
	} {
		rows[62][2], rows[63][2] = c.away[0], c.away[1]
		if shown := step(t, x, headsOf(rows...), c.want); shown != c.shown {
			t.Errorf("row %d: %q, want %q", i, shown, c.shown)
		}
	}
}

// P7.4: which greens hold the gate; what is settled.
func TestGateAndSettled(t *testing.T) {
	x := api.Tables{Groups: []api.Group{{Sort: 1, Min: 3, Amber: 2, Lead: 2}, {Sort: 1, Min: 1, Amber: 2, Lead: 2}}}
	for i, c := range []struct {
		h             api.Heads
		open, settled [4]bool // by the mask that is wanted
	}{
		{headsOf([3]int{red, 1, 1}, [3]int{red, 1, 1}), [4]bool{true, true, true, true}, [4]bool{true, false, false, false}},
		{headsOf([3]int{green, 2, 0}, [3]int{red, 1, 1}), [4]bool{false, true, false, true}, [4]bool{false, true, false, false}},
		{headsOf([3]int{green, 3, 0}, [3]int{red, 1, 1}), [4]bool{true, true, true, true}, [4]bool{false, true, false, false}},
		{headsOf([3]int{green, top, 0}, [3]int{red, 1, 1}), [4]bool{true, true, true, true}, [4]bool{false, true, false, false}},
		{headsOf([3]int{green, 2, 0}, [3]int{green, 1, 0}), [4]bool{false, true, false, true}, [4]bool{false, false, false, true}},
		{headsOf([3]int{red, 1, 1}, [3]int{green, 1, 0}), [4]bool{true, true, true, true}, [4]bool{false, false, true, false}},
		{headsOf([3]int{lead, 1, 1}, [3]int{red, 1, 1}), [4]bool{true, true, true, true}, [4]bool{}},
		{headsOf([3]int{red, 1, 1}, [3]int{amber, 1, 1}), [4]bool{true, true, true, true}, [4]bool{}},
		{headsOf([3]int{amber, 1, 1}, [3]int{lead, 1, 1}), [4]bool{true, true, true, true}, [4]bool{}},
		{headsOf([3]int{green, 1, 0}, [3]int{lead, 1, 1}), [4]bool{false, true, false, true}, [4]bool{}},
	} {
		for want := range uint64(4) {
			for _, mask := range []uint64{want, want | high, want | 1<<2, want | 1<<63} {
				if open := heads.Gate(x, c.h, mask); open != c.open[want] {
					t.Errorf("row %d: Gate(%x) = %v", i, mask, open)
				}
				if settled := heads.Settled(x, c.h, mask); settled != c.settled[want] {
					t.Errorf("row %d: Settled(%x) = %v", i, mask, settled)
				}
			}
		}
	}
	for _, mask := range []uint64{0, 1, ^uint64(0)} {
		if !heads.Gate(api.Tables{}, api.Heads{}, mask) || !heads.Settled(api.Tables{}, api.Heads{}, mask) {
			t.Errorf("no groups, %x: not open, or not settled", mask)
		}
	}
	long := lone(3600, 0, 0)
	if heads.Gate(long, headsOf([3]int{green, 3599, 0}), 0) || !heads.Gate(long, headsOf([3]int{green, 3600, 0}), 0) {
		t.Error("a minimum of 3600")
	}
}

// P7.5: letters of any heads, whatever stands in In and Away.
func TestShow(t *testing.T) {
	for _, c := range []struct {
		h     api.Heads
		shown string
	}{
		{api.Heads{}, ""},
		{api.Heads{In: []int32{1}, Away: []int32{1, 2}}, ""},
		{api.Heads{Aspect: []int{}}, ""},
		{api.Heads{Aspect: []int{0, 1, 2, 3}}, "rlga"},
		{api.Heads{Aspect: []int{3, 2, 1, 0, 0}, In: []int32{-1, 0}, Away: []int32{5}}, "aglrr"},
		{api.Heads{Aspect: []int{4, -1, math.MaxInt, math.MinInt, 256, 1 << 32, 2}}, "??????g"},
		{api.Heads{Aspect: make([]int, 70)}, "rrrrrrrrrrrrrrrrrrrrrrrrrrrrrrrrrrrrrrrrrrrrrrrrrrrrrrrrrrrrrrrrrrrrrr"},
	} {
		if shown := heads.Show(c.h); shown != c.shown {
			t.Errorf("Show(%v) = %q, want %q", c.h, shown, c.shown)
		}
	}
	for aspect := -300; aspect < 300; aspect++ {
		if shown, known := heads.Show(api.Heads{Aspect: []int{aspect}}), 0 <= aspect && aspect < 4; (shown == "?") == known || len(shown) != 1 {
			t.Errorf("aspect %d: %q", aspect, shown)
		}
	}
}

// P7.6: the chapter's examples and more of their kind.
func TestRun(t *testing.T) {
	three := two()
	three.Groups = append(three.Groups, api.Group{Sort: api.Pedestrian, Min: 1, Amber: 2, Lead: 1})
	for i, c := range []struct {
		tables api.Tables
		wants  []uint64
		shown  []string
	}{
		{two(), []uint64{1, 1, 1, 2, 2, 2, 2, 2, 1}, []string{"rr", "rr", "gr", "gr", "ar", "rr", "rr", "rg", "rg", "ra"}},
		{two(), []uint64{3, 3, 3}, []string{"rr", "rr", "gr", "gr"}},
		{two(), []uint64{0, 0}, []string{"rr", "rr", "rr"}},
		{two(), []uint64{high, high, high}, []string{"rr", "rr", "rr", "rr"}},
		{two(), []uint64{2, 2, 2, 2, 0, 0, 0}, []string{"rr", "rr", "rr", "rg", "rg", "ra", "rr", "rr"}},
		{two(), nil, []string{"rr"}},
		{two(), []uint64{}, []string{"rr"}},
		{lone(1, 0, 2), []uint64{1, 0, 0, 0}, []string{"r", "l", "l", "g", "r"}},
		{lone(1, 0, 0), []uint64{1, 0, 1, 0}, []string{"r", "g", "r", "g", "r"}},
		{lone(2, 2, 1), []uint64{1, 0, 0, 0, 1, 1, 1, 1}, []string{"r", "l", "g", "g", "a", "a", "r", "l", "g"}},
		{three, []uint64{4, 6, 2, 2, 2}, []string{"rrr", "rrl", "rrg", "rga", "rga", "rgr"}},
		{api.Tables{}, nil, []string{""}},
		{api.Tables{}, []uint64{5, ^uint64(0)}, []string{"", "", ""}},
	} {
		list, e := heads.Run(c.tables, c.wants)
		if e != api.OK || !slices.Equal(list, c.shown) {
			t.Errorf("row %d: %v, %d, want %v", i, list, e, c.shown)
		}
	}
}

// P7.3, P7.6: both of two groups in conflict wanted for ever: the first one stays green for ever.
func TestBothForEver(t *testing.T) {
	list, e := heads.Run(two(), slices.Repeat([]uint64{3}, 20000))
	if e != api.OK || len(list) != 20001 {
		t.Fatalf("%d pictures, %d", len(list), e)
	}
	for i, picture := range list {
		if want := map[bool]string{true: "gr", false: "rr"}[i >= 2]; picture != want {
			t.Fatalf("picture %d: %q, want %q", i, picture, want)
		}
	}
}

// P7.3: counts go on from run to run of steps, and stay at the greatest word.
func TestCountsStay(t *testing.T) {
	h := headsOf([3]int{green, top - 2, 0}, [3]int{red, 5, top - 1})
	for i, want := range []api.Heads{
		headsOf([3]int{green, top - 1, 0}, [3]int{red, 6, top}),
		headsOf([3]int{green, top, 0}, [3]int{red, 7, top}),
		headsOf([3]int{green, top, 0}, [3]int{red, 8, top}),
	} {
		n, e := heads.Step(two(), h, 1)
		if e != api.OK || !same(n, want) {
			t.Fatalf("step %d: %s, %d, want %v", i, fmt.Sprint(n), e, want)
		}
		h = n
	}
}
