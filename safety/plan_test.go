package safety_test

import (
	"math"
	"math/rand"
	"slices"
	"strings"
	"testing"

	"junction/api"
	"junction/safety"
)

// ring is a plan without a finding; its last stage is not reached.
const ring = `plan p {
	group a vehicle min 5 amber 3 lead 1;
	group b vehicle min 5 amber 3 lead 1;
	group c pedestrian min 4 amber 0;
	conflict a b 4 5;
	conflict a c 6 8;
	start s;
	stage s { green a; next u when false; }
	stage u { green b, c; next s when true; }
	stage v { green c; next s when true; }
}`

// P6.6: Reach.
func TestReach(t *testing.T) {
	chain := stagesOf(api.Tables{}, make([]uint64, 256))
	for i := range 255 {
		chain.Stages[i+1].Nexts = []api.TNext{{To: i, When: truth(0)}}
	}
	all := slices.Repeat([]bool{true}, 256)
	for i, c := range []struct {
		p     api.Typed
		start int
		want  []bool
	}{
		{resolved(t, ring), 0, []bool{true, true, false}},
		{resolved(t, ring), 1, []bool{true, true, false}},
		{resolved(t, ring), 2, []bool{true, true, true}},
		{stagesOf(api.Tables{}, []uint64{0}), 0, []bool{true}},
		{stagesOf(api.Tables{}, []uint64{0, 0}, []int{}, []int{0}), 0, []bool{true, false}},
		{stagesOf(api.Tables{}, make([]uint64, 5), []int{3, 3}, []int{2}, []int{1}, []int{0, 4}), 0, []bool{true, false, false, true, true}},
		{stagesOf(api.Tables{}, make([]uint64, 5), []int{3, 3}, []int{2}, []int{1}, []int{0, 4}), 2, []bool{false, true, true, false, false}},
		{chain, 255, all},
		{chain, 100, append(slices.Repeat([]bool{true}, 101), make([]bool, 155)...)},
	} {
		c.p.Start = c.start
		if list, e := safety.Reach(c.p); e != api.OK || !slices.Equal(list, c.want) {
			t.Errorf("row %d: %v, %d, want %v", i, list, e, c.want)
		}
	}
}

// P6.7: each line of the order, by itself, on both sides of its limit.
func TestCheckLines(t *testing.T) {
	for _, c := range []struct {
		old, new string
		want     []api.Finding
	}{
		{"", "", nil},
		{"a vehicle min 5", "a vehicle min 4", []api.Finding{finding(api.ErrMin, -1, 0, -1)}},
		{"b vehicle min 5 amber 3", "b vehicle min 5 amber 2", []api.Finding{finding(api.ErrAmber, -1, 1, -1)}},
		{"lead 1;", "lead 3;", nil},
		{"lead 1;", "lead 4;", []api.Finding{finding(api.ErrLead, -1, 0, -1)}},
		{"a vehicle min 5 amber 3 lead 1", "a vehicle min 1 amber 0 lead 60", []api.Finding{finding(api.ErrMin, -1, 0, -1), finding(api.ErrAmber, -1, 0, -1), finding(api.ErrLead, -1, 0, -1)}},
		{"c pedestrian min 4", "c pedestrian min 3", []api.Finding{finding(api.ErrMin, -1, 2, -1)}},
		{"amber 0", "amber 0 lead 1", []api.Finding{finding(api.ErrLead, -1, 2, -1)}},
		{"amber 0", "amber 8", nil},
		{"amber 0", "amber 9", []api.Finding{finding(api.ErrShort, -1, 2, 0)}},
		{"a b 4 5", "a b 3 3", nil},
		{"a b 4 5", "a b 2 3", []api.Finding{finding(api.ErrShort, -1, 0, 1)}},
		{"a b 4 5", "a b 3 2", []api.Finding{finding(api.ErrShort, -1, 1, 0)}},
		{"a b 4 5", "b a 2 3", []api.Finding{finding(api.ErrShort, -1, 1, 0)}},
		{"a b 4 5;", "a b 0 0; conflict b c 1 0;", []api.Finding{finding(api.ErrShort, -1, 0, 1), finding(api.ErrShort, -1, 1, 0), finding(api.ErrShort, -1, 1, 2), finding(api.ErrClash, 1, 1, 2)}},
		{"a c 6 8", "a c 3 0", nil},
		{"green a;", "green a, c, b;", []api.Finding{finding(api.ErrClash, 0, 0, 1), finding(api.ErrClash, 0, 0, 2)}},
		{"green c;", "green c, a;", []api.Finding{finding(api.ErrClash, 2, 0, 2)}},
		{"next s when true; }\n\tstage v", "}\n\tstage v", []api.Finding{finding(api.ErrTrap, 1, -1, -1)}},
		{"next s when true; }\n}", "}\n}", nil},
		{"green b, c;", "green b;", []api.Finding{finding(api.ErrNever, -1, 2, -1)}},
		{"green b, c;", "green;", []api.Finding{finding(api.ErrNever, -1, 1, -1), finding(api.ErrNever, -1, 2, -1)}},
		{"a b 4 5", "a b 3598 3598", nil},
		{"a b 4 5", "a b 3599 5", []api.Finding{finding(api.ErrSlow, 0, -1, 1)}},
		{"a b 4 5", "a b 4 3599", []api.Finding{finding(api.ErrSlow, -1, -1, 0), finding(api.ErrSlow, 1, -1, 0)}},
		{"a c 6 8", "a c 3599 3598", nil},
		{"a c 6 8", "a c 3600 8", []api.Finding{finding(api.ErrSlow, 0, -1, 1)}},
		{"start s", "start u", nil},
		{"start s", "start v", nil},
		// A move that clashes is passed over, whichever of its masks does.
		{"a c 6 8;\n\tstart s;\n\tstage s { green a;", "a c 6 3600;\n\tstart s;\n\tstage s { green a, b;", []api.Finding{finding(api.ErrClash, 0, 0, 1)}},
		{"a c 6 8;\n\tstart s;", "a c 3600 8;\n\tstart v;\n\tstage w { green a, b, c; next u when true; next v when true; }", []api.Finding{
			finding(api.ErrClash, 0, 0, 1), finding(api.ErrClash, 0, 0, 2), finding(api.ErrSlow, -1, -1, 3), finding(api.ErrSlow, 1, -1, 2),
		}},
		// From two stages to one, and from one to one twice.
		{"a c 6 8;\n\tstart s;\n\tstage s { green a; next u when false;", "a c 6 3600;\n\tstart s;\n\tstage s { green a; next v when true; next u when false; next u when true;", []api.Finding{
			finding(api.ErrSlow, -1, -1, 0), finding(api.ErrSlow, 1, -1, 0), finding(api.ErrSlow, 2, -1, 0),
		}},
		{"a c 6 8;\n\tstart s;\n\tstage s { green a; next u when false;", "a c 3600 8;\n\tstart s;\n\tstage s { green a; next v when true; next u when false; next u when true;", []api.Finding{
			finding(api.ErrSlow, 0, -1, 2), finding(api.ErrSlow, 0, -1, 1), finding(api.ErrSlow, 0, -1, 1),
		}},
	} {
		if !strings.Contains(ring, c.old) {
			t.Fatalf("%q is not there", c.old)
		}
		list, e := safety.Check(resolved(t, strings.Replace(ring, c.old, c.new, 1)))
		if e != api.OK || !slices.Equal(list, c.want) {
			t.Errorf("with %q: %v, %d\nwant %v", c.new, list, e, c.want)
		}
	}
}

// P6.7: all lines in their order; the chapter's example.
func TestCheckOrder(t *testing.T) {
	p := stagesOf(three(), []uint64{3, 6, 1, 0}, []int{1, 2}, []int{0, 2, 3}, []int{1}, nil)
	p.Tables.Groups = append(p.Tables.Groups, api.Group{Name: "d", Sort: api.Pedestrian, Min: 1, Lead: 60, Amber: 60})
	p.Tables.Groups[0].Min = 4
	p.Tables.Conflicts[0].BA = 0
	p.Tables.Conflicts[1].AB = 3600
	p.Tables.Conflicts = append(p.Tables.Conflicts, api.Conflict{A: 0, B: 3, AB: 2, BA: 59}, api.Conflict{A: 1, B: 2, BA: 3600})
	want := []api.Finding{
		finding(api.ErrMin, -1, 0, -1), finding(api.ErrMin, -1, 3, -1), finding(api.ErrLead, -1, 3, -1),
		finding(api.ErrShort, -1, 1, 0), finding(api.ErrShort, -1, 0, 3), finding(api.ErrShort, -1, 3, 0), finding(api.ErrShort, -1, 1, 2),
		finding(api.ErrClash, 0, 0, 1), finding(api.ErrClash, 1, 1, 2),
		finding(api.ErrTrap, 3, -1, -1), finding(api.ErrNever, -1, 3, -1),
	}
	if list, e := safety.Check(p); e != api.OK || !slices.Equal(list, want) {
		t.Errorf("%v, %d\nwant %v", list, e, want)
	}
	p.Stages[0].Green, p.Stages[1].Green = 1, 4
	want = append(slices.Clone(want[:7]), finding(api.ErrTrap, 3, -1, -1), finding(api.ErrNever, -1, 1, -1), finding(api.ErrNever, -1, 3, -1), finding(api.ErrSlow, 0, -1, 1), finding(api.ErrSlow, 2, -1, 1))
	if list, e := safety.Check(p); e != api.OK || !slices.Equal(list, want) {
		t.Errorf("%v, %d\nwant %v", list, e, want)
	}
	list, e := safety.Check(stagesOf(three(), []uint64{3}))
	want = []api.Finding{finding(api.ErrClash, 0, 0, 1), finding(api.ErrTrap, 0, -1, -1), finding(api.ErrNever, -1, 2, -1)}
	if e != api.OK || !slices.Equal(list, want) {
		t.Errorf("the example: %v, %d, want %v", list, e, want)
	}
}

// P6.7: no more than the first 64 findings, wherever they end.
func TestCheckMany(t *testing.T) {
	bare := func(n int) api.Typed {
		return stagesOf(api.Tables{Groups: crowd(n).Groups}, []uint64{0, 0}, []int{1}, []int{0})
	}
	// Each group is green in no stage.
	for _, n := range []int{0, 1, 31, 63, 64} {
		if list, e := safety.Check(bare(n)); e != api.OK || len(list) != n {
			t.Errorf("%d groups: %d findings, %d", n, len(list), e)
		}
	}
	// One more finding ahead of those, or behind.
	p := bare(63)
	p.Tables.Groups[0].Min = 4
	if list, e := safety.Check(p); e != api.OK || len(list) != 64 || list[0] != finding(api.ErrMin, -1, 0, -1) || list[63] != finding(api.ErrNever, -1, 62, -1) {
		t.Errorf("64 findings: %v, %d", list, e)
	}
	p = bare(64)
	p.Tables.Groups[0].Min = 4
	if list, e := safety.Check(p); e != api.OK || len(list) != 64 || list[63] != finding(api.ErrNever, -1, 62, -1) {
		t.Errorf("65 findings: %v, %d", list, e)
	}
	// 66 clashes of one stage.
	list, e := safety.Check(stagesOf(crowd(12), []uint64{1<<12 - 1}))
	if e != api.OK || len(list) != 64 || list[0] != finding(api.ErrClash, 0, 0, 1) || list[63] != finding(api.ErrClash, 0, 9, 10) {
		t.Errorf("66 clashes: %v, %d", list, e)
	}
	// Intergreens that are all too short, in the order of the conflicts.
	short := stagesOf(crowd(64), []uint64{1})
	for i := range short.Tables.Conflicts {
		short.Tables.Conflicts[i].AB, short.Tables.Conflicts[i].BA = 2, 2
	}
	list, e = safety.Check(short)
	if e != api.OK || len(list) != 64 || list[0] != finding(api.ErrShort, -1, 0, 1) || list[1] != finding(api.ErrShort, -1, 1, 0) || list[63] != finding(api.ErrShort, -1, 32, 0) {
		t.Errorf("4032 short ones: %v, %d", list, e)
	}
}

// P6.8: Bound.
func TestBound(t *testing.T) {
	for i, c := range []struct {
		p    api.Typed
		want int
		e    api.Errno
	}{
		{resolved(t, ring), 10, api.OK},
		{stagesOf(api.Tables{}, []uint64{0}), 0, api.OK},
		{stagesOf(three(), []uint64{0}), 0, api.OK},
		{stagesOf(three(), []uint64{4}), 7, api.OK},
		{stagesOf(three(), []uint64{2}), 6, api.OK},
		{stagesOf(three(), []uint64{0, 1}, []int{1}), 10, api.OK},
		{stagesOf(three(), []uint64{0, 1}, nil, []int{0}), 0, api.OK},
		// No start's move is the greatest; a loss alone.
		{stagesOf(crowd(1), []uint64{1, 0}, []int{1}), 4, api.OK},
		// A clash counts in a reached stage alone.
		{stagesOf(three(), []uint64{3}), 0, api.ErrClash},
		{stagesOf(three(), []uint64{2, 5}, []int{1}), 0, api.ErrClash},
		{stagesOf(three(), []uint64{2, 0, 7}, []int{1}, []int{0, 2}), 0, api.ErrClash},
		{stagesOf(three(), []uint64{2, 0, 7}, []int{1}, []int{0}, []int{0}), 6, api.OK},
	} {
		if n, e := safety.Bound(c.p); n != c.want || e != c.e {
			t.Errorf("row %d: %d, %d, want %d, %d", i, n, e, c.want, c.e)
		}
	}
}

// P6.6, P6.7, P6.8: plans that are not sound.
func TestUnsoundPlans(t *testing.T) {
	for i, spoil := range []func(*api.Typed){
		func(p *api.Typed) { *p = api.Typed{} },
		func(p *api.Typed) { p.Name = "" },
		func(p *api.Typed) { p.Start = 3 },
		func(p *api.Typed) { p.Start = -1 },
		func(p *api.Typed) { p.Start = math.MaxInt },
		func(p *api.Typed) { p.Stages = nil },
		func(p *api.Typed) { p.Stages[1].Nexts[0].To = 3 },
		func(p *api.Typed) { p.Stages[1].Nexts[0].To = -1 },
		func(p *api.Typed) { p.Stages[1].Nexts[0].To = 1 },
		func(p *api.Typed) { p.Stages[2].Nexts[0].To = math.MinInt },
		func(p *api.Typed) { p.Stages[2].Nexts[0].When = nil },
		func(p *api.Typed) { p.Stages[2].Green = 8 },
		func(p *api.Typed) { p.Stages[2].Green = 1 << 63 },
		func(p *api.Typed) { p.Stages[2].Id = 1 },
		func(p *api.Typed) { p.Stages[2].Enter = []api.Stmt{{Kind: api.StRun}} },
		func(p *api.Typed) { p.Tables.Groups[0].Sort = 3 },
		func(p *api.Typed) { p.Tables.Groups[0].Sort = math.MinInt },
		func(p *api.Typed) { p.Tables.Groups = p.Tables.Groups[:2] },
		func(p *api.Typed) { p.Tables.Conflicts[1].B = 64 },
		func(p *api.Typed) { p.Tables.Conflicts[1].A = math.MinInt },
		func(p *api.Typed) { p.Tables.Groups[2].Name = "a" },
		func(p *api.Typed) { *p = stagesOf(api.Tables{}, make([]uint64, 257)) },
	} {
		p := resolved(t, ring)
		spoil(&p)
		if list, e := safety.Reach(p); len(list) != 0 || e != api.ErrTyped {
			t.Errorf("row %d: Reach: %v, %d", i, list, e)
		}
		if list, e := safety.Check(p); len(list) != 0 || e != api.ErrTyped {
			t.Errorf("row %d: Check: %v, %d", i, list, e)
		}
		if n, e := safety.Bound(p); n != 0 || e != api.ErrTyped {
			t.Errorf("row %d: Bound: %d, %d", i, n, e)
		}
	}
}

// P6.6, P6.7, P6.8: against the second way.
func TestPlansAtRandom(t *testing.T) {
	t.Parallel()
	r := rand.New(rand.NewSource(67))
	seen := map[api.Errno]int{}
	for range 4000 {
		p := anyPlan(r)
		if list, e := safety.Reach(p); e != api.OK || !slices.Equal(list, modelReach(p)) {
			t.Fatalf("Reach: %v, %d, want %v of %+v", list, e, modelReach(p), p)
		}
		want := modelFindings(p)
		want = want[:min(len(want), 64)]
		list, e := safety.Check(p)
		if e != api.OK || !slices.Equal(list, want) {
			t.Fatalf("Check: %v, %d\nwant %v of %+v", list, e, want, p)
		}
		for _, f := range list {
			seen[f.Code]++
		}
		bound, e := modelBound(p)
		if n, f := safety.Bound(p); n != bound || f != e {
			t.Fatalf("Bound: %d, %d, want %d, %d of %+v", n, f, bound, e, p)
		}
		seen[e]++
	}
	for e := api.ErrClash; e <= api.ErrSlow; e++ {
		if seen[e] < 200 {
			t.Errorf("too few of %d: %v", e, seen)
		}
	}
}

// P6.7: what a plan that passes is like: DOC.md's small one, and small with its faults.
func TestSmall(t *testing.T) {
	small := `plan small {
		group main vehicle min 7 amber 3 lead 2; group side vehicle min 5 amber 3; group walk pedestrian min 6 amber 4;
		conflict main side 5 6; conflict main walk 4 8;
		detector push latch;
		start flow;
		stage flow { green main; next cross when push; next turn when elapsed > 9; }
		stage turn { green side; next flow when true; }
		stage cross { green side, walk; enter { clear push; } next flow when elapsed >= 6; }
	}`
	for _, c := range []struct {
		old, new string
		want     []api.Finding
		bound    int
		e        api.Errno
	}{
		{"", "", nil, 11, api.OK},
		{"green main;", "green main, side;", []api.Finding{finding(api.ErrClash, 0, 0, 1)}, 0, api.ErrClash},
		{"main side 5 6", "main side 2 6", []api.Finding{finding(api.ErrShort, -1, 0, 1)}, 11, api.OK},
	} {
		p := resolved(t, strings.Replace(small, c.old, c.new, 1))
		if list, e := safety.Check(p); e != api.OK || !slices.Equal(list, c.want) {
			t.Errorf("with %q: %v, %d, want %v", c.new, list, e, c.want)
		}
		if n, e := safety.Bound(p); n != c.bound || e != c.e {
			t.Errorf("with %q: Bound %d, %d, want %d, %d", c.new, n, e, c.bound, c.e)
		}
	}
}
