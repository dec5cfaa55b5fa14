package safety_test

import (
	"math"
	"math/rand"
	"reflect"
	"slices"
	"testing"
	"time"

	"junction/api"
	"junction/check"
	"junction/safety"
)

// calls makes all of them, and tells what they answer.
func calls(p api.Typed, from, to uint64, a, b int) []any {
	var out []any
	keep := func(list ...any) { out = append(out, list...) }
	n, ok := safety.Inter(p.Tables, a, b)
	keep(n, ok)
	x, y, ok := safety.Clash(p.Tables, from)
	keep(x, y, ok)
	for _, call := range []func(api.Tables, uint64, uint64) (int, api.Errno){safety.Span, safety.Longest, safety.Hold} {
		n, e := call(p.Tables, from, to)
		keep(n, e)
	}
	reach, e := safety.Reach(p)
	keep(reach, e)
	found, e := safety.Check(p)
	keep(found, e)
	n, e = safety.Bound(p)
	keep(n, e)
	return out
}

// wild is any number, small ones mostly.
func wild(r *rand.Rand) int {
	return pick(r, -1, 0, 1, 2, 3, 4, 5, 60, 61, 63, 64, 255, 256, 3600, 3601, math.MinInt, math.MaxInt, math.MinInt32, math.MaxInt32)
}

// wildPlan is one whose fields don't fit one another, or just one of them.
func wildPlan(r *rand.Rand) api.Typed {
	p := anyPlan(r)
	for range pick(r, 1, 1, 2, 9) {
		s := &p.Stages[r.Intn(len(p.Stages))]
		switch r.Intn(9) {
		case 0:
			p.Start = wild(r)
		case 1:
			s.Green = r.Uint64()
		case 2:
			s.Nexts = append(s.Nexts, api.TNext{To: wild(r), When: truth(1)})
		case 3:
			p.Tables.Conflicts = append(p.Tables.Conflicts, api.Conflict{A: wild(r), B: wild(r), AB: wild(r), BA: wild(r)})
		case 4:
			p.Tables.Groups = append(p.Tables.Groups, api.Group{Name: "new", Sort: wild(r), Min: wild(r), Amber: wild(r), Lead: wild(r)})
		case 5:
			p.Tables.Groups = p.Tables.Groups[:r.Intn(len(p.Tables.Groups)+1)]
		case 6:
			s.Id = wild(r)
		case 7:
			s.During = []api.Stmt{{Kind: wild(r), Ix: wild(r)}}
		case 8:
			r.Shuffle(len(p.Tables.Conflicts), func(i, j int) {
				p.Tables.Conflicts[i], p.Tables.Conflicts[j] = p.Tables.Conflicts[j], p.Tables.Conflicts[i]
			})
		}
	}
	return p
}

// P6.9: no call panics, keeps or changes anything, whatever it is given; a refusal has nothing beside it.
func TestGarbage(t *testing.T) {
	t.Parallel()
	refused := 0
	for seed := range int64(6000) {
		// Of one seed comes one plan, in new memory.
		p, q := wildPlan(rand.New(rand.NewSource(seed))), wildPlan(rand.New(rand.NewSource(seed)))
		r := rand.New(rand.NewSource(seed))
		from, to, a, b := r.Uint64(), r.Uint64(), wild(r), wild(r)
		first := calls(p, from, to, a, b)
		if !reflect.DeepEqual(p, q) {
			t.Fatalf("changed: %+v\nwas %+v", p, q)
		}
		if again := calls(q, from, to, a, b); !reflect.DeepEqual(first, again) {
			t.Fatalf("%v, then %v of %+v", first, again, p)
		}
		if check.Sound(p) {
			continue
		}
		refused++
		if n := len(first); !reflect.DeepEqual(first[n-6:], []any{[]bool(nil), api.ErrTyped, []api.Finding(nil), api.ErrTyped, 0, api.ErrTyped}) {
			t.Fatalf("%v of %+v", first, p)
		}
		if n := len(first); !check.Grid(p.Tables) && !reflect.DeepEqual(first[n-12:n-6], []any{0, api.ErrTables, 0, api.ErrTables, 0, api.ErrTables}) {
			t.Fatalf("%v of %+v", first, p)
		}
	}
	if refused < 2000 {
		t.Errorf("only %d were refused", refused)
	}
}

// P6.9: an answer is new memory.
func TestNewMemory(t *testing.T) {
	p := stagesOf(three(), []uint64{3, 1}, []int{1})
	reach, _ := safety.Reach(p)
	found, _ := safety.Check(p)
	wantReach, wantFound := slices.Clone(reach), slices.Clone(found)
	clear(reach[:cap(reach)])
	clear(found[:cap(found)])
	if list, _ := safety.Reach(p); !slices.Equal(list, wantReach) {
		t.Errorf("Reach: %v, want %v", list, wantReach)
	}
	if list, _ := safety.Check(p); !slices.Equal(list, wantFound) {
		t.Errorf("Check: %v, want %v", list, wantFound)
	}
}

// P6.9: a plan at all of its limits, and tables far above theirs, are through at once.
func TestLarge(t *testing.T) {
	p := stagesOf(crowd(64), make([]uint64, 256))
	p.Tables.Groups[63].Lead = 60
	for i := range p.Stages {
		p.Stages[i].Green = 1 << (i % 64)
		for k := range 16 {
			p.Stages[i].Nexts = append(p.Stages[i].Nexts, api.TNext{To: (i + 1 + k) % 256, When: truth(1)})
		}
	}
	long := api.Tables{Groups: make([]api.Group, 1000), Conflicts: make([]api.Conflict, 1<<20)}
	for i := range long.Conflicts {
		long.Conflicts[i] = api.Conflict{A: i, B: i + 1, AB: i, BA: -i}
	}
	began := time.Now()
	if list, e := safety.Check(p); e != api.OK || !slices.Equal(list, []api.Finding{finding(api.ErrLead, -1, 63, -1)}) {
		t.Errorf("%v, %d", list, e)
	}
	if n, e := safety.Bound(p); n != 64 || e != api.OK {
		t.Errorf("Bound: %d, %d", n, e)
	}
	if n, ok := safety.Inter(long, 1<<20, 1<<20-1); n != 1-1<<20 || !ok {
		t.Errorf("Inter: %d, %v", n, ok)
	}
	if a, b, ok := safety.Clash(long, 3<<62); a != 62 || b != 63 || !ok {
		t.Errorf("Clash: %d, %d, %v", a, b, ok)
	}
	if n, e := safety.Span(long, 1, 2); n != 0 || e != api.ErrTables {
		t.Errorf("Span: %d, %d", n, e)
	}
	if took := time.Since(began); took > 5*time.Second {
		t.Errorf("it took %v", took)
	}
}
