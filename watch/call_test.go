package watch_test

import (
	"math"
	"math/rand"
	"reflect"
	"runtime"
	"slices"
	"strings"
	"sync"
	"testing"
	"time"

	"junction/api"
	"junction/check"
	"junction/watch"
)

// unsound are tables that check.Grid refuses, each by one thing.
func unsound() []api.Tables {
	var list []api.Tables
	for _, spoil := range []func(*api.Tables){
		func(x *api.Tables) { x.Groups[0].Sort = 0 },
		func(x *api.Tables) { x.Groups[1].Sort = 3 },
		func(x *api.Tables) { x.Groups[1].Min = 0 },
		func(x *api.Tables) { x.Groups[1].Min = 3601 },
		func(x *api.Tables) { x.Groups[0].Amber = -1 },
		func(x *api.Tables) { x.Groups[0].Amber = 61 },
		func(x *api.Tables) { x.Groups[0].Lead = math.MinInt },
		func(x *api.Tables) { x.Groups[0].Lead = 61 },
		func(x *api.Tables) { x.Conflicts[0].A = -1 },
		func(x *api.Tables) { x.Conflicts[0].A = 1 },
		func(x *api.Tables) { x.Conflicts[0].B = 2 },
		func(x *api.Tables) { x.Conflicts[0].A, x.Conflicts[0].B = 1, 0 },
		func(x *api.Tables) { x.Conflicts[0].AB = 3601 },
		func(x *api.Tables) { x.Conflicts[0].BA = -1 },
		func(x *api.Tables) { x.Conflicts = append(x.Conflicts, x.Conflicts[0]) },
		func(x *api.Tables) { *x = free(3); slices.Reverse(x.Conflicts) },
		func(x *api.Tables) { x.Groups = nil },
		func(x *api.Tables) { *x = free(65) },
	} {
		x := two()
		spoil(&x)
		list = append(list, x)
	}
	return list
}

// P15.1 to P15.3: tables that are not sound are refused whatever the trace is, and nothing is told beside it.
func TestUnsoundTables(t *testing.T) {
	for i, x := range unsound() {
		for _, trace := range [][]string{nil, {}, texts("rr rr gr gg"), {"rr"}, {""}, {"x", "gg"}} {
			if list, e := watch.Audit(x, trace); len(list) != 0 || e != api.ErrTables {
				t.Errorf("row %d: Audit of %q: %v, %d", i, trace, list, e)
			}
			if a, e := watch.Judge(x, trace); a != (api.Alarm{}) || e != api.ErrTables {
				t.Errorf("row %d: Judge of %q: %v, %d", i, trace, a, e)
			}
		}
		if m, e := watch.New(x); m != nil || e != api.ErrTables {
			t.Errorf("row %d: New: %v, %d", i, m, e)
		}
	}
	// Tables at all limits are sound.
	x := free(64)
	x.Groups[0], x.Groups[1] = api.Group{Sort: 2, Min: 3600, Amber: 60, Lead: 60}, api.Group{Sort: 1, Min: 1}
	x.Conflicts[0].AB, x.Conflicts[1].BA = 3600, 3600
	checkTrace(t, x, slices.Repeat([]string{strings.Repeat("r", 64)}, 3), nil)
}

// given is what calls are made with.
type given struct {
	Tables api.Tables
	Trace  []string
	Tick   int
}

// answer is all that the calls answer.
type answer struct {
	Audit  []api.Alarm
	Judge  api.Alarm
	Fed    []api.Alarm
	Log    []api.Alarm
	Lamps  [2]string
	Errnos [3]api.Errno
}

// calls makes all of them.
func calls(g given) answer {
	var a answer
	a.Audit, a.Errnos[0] = watch.Audit(g.Tables, g.Trace)
	a.Judge, a.Errnos[1] = watch.Judge(g.Tables, g.Trace)
	m, e := watch.New(g.Tables)
	a.Errnos[2] = e
	for _, text := range g.Trace {
		a.Lamps = [2]string{watch.Lamps(text, true, g.Tick), watch.Lamps(text, false, g.Tick)}
		if m == nil {
			continue
		}
		a.Fed = append(a.Fed, m.Feed(text), m.Tripped())
		if g.Tick%3 == 0 {
			m.Reset()
		}
		a.Log = m.Log()
	}
	return a
}

// wild is any number, small ones mostly.
func wild(r *rand.Rand) int {
	return pick(r, -1, 0, 1, 2, 3, 4, 5, 60, 61, 63, 64, 3600, 3601, math.MinInt, math.MaxInt, math.MinInt32, math.MaxInt32)
}

// wildThings are right, or wrong in some things.
func wildThings(t *testing.T, r *rand.Rand) given {
	g := given{Tables: anyTables(r, r.Intn(6)), Tick: wild(r)}
	g.Trace = anyTrace(t, r, g.Tables, r.Intn(30))
	x := &g.Tables
	for range pick(r, 0, 0, 1, 1, 2, 9) {
		switch r.Intn(6) {
		case 0:
			x.Groups = append(x.Groups, api.Group{Sort: wild(r), Min: wild(r), Amber: wild(r), Lead: wild(r)})
		case 1:
			x.Conflicts = append(x.Conflicts, api.Conflict{A: wild(r), B: wild(r), AB: wild(r), BA: wild(r)})
		case 2:
			x.Groups = x.Groups[:r.Intn(len(x.Groups)+1)]
		case 3:
			r.Shuffle(len(x.Conflicts), func(i, j int) { x.Conflicts[i], x.Conflicts[j] = x.Conflicts[j], x.Conflicts[i] })
		case 4:
			x.Conflicts = x.Conflicts[:r.Intn(len(x.Conflicts)+1)]
		case 5:
			b := make([]byte, r.Intn(9))
			r.Read(b)
			g.Trace = append(g.Trace, string(b))
		}
	}
	return g
}

// G1 to G3, G5: whatever is given, no call panics, keeps or changes anything; a refusal has nothing beside it; the same is answered of the same.
func TestGarbage(t *testing.T) {
	t.Parallel()
	var seen [2]int
	for seed := range int64(8000) {
		// Of one seed come the same things, in new memory.
		g, h := wildThings(t, rand.New(rand.NewSource(seed))), wildThings(t, rand.New(rand.NewSource(seed)))
		first := calls(g)
		if !reflect.DeepEqual(g, h) {
			t.Fatalf("changed: %+v, was %+v", g, h)
		}
		if again := calls(h); !reflect.DeepEqual(first, again) {
			t.Fatalf("%+v, then %+v", first, again)
		}
		if check.Grid(g.Tables) {
			seen[1]++
			checkTrace(t, g.Tables, g.Trace, modelAudit(g.Tables, g.Trace))
			if first.Errnos != [3]api.Errno{} {
				t.Fatalf("%v of %+v", first.Errnos, g)
			}
			continue
		}
		seen[0]++
		if first.Errnos != [3]api.Errno{70, 70, 70} || len(first.Audit)+len(first.Fed) > 0 || first.Judge != (api.Alarm{}) {
			t.Fatalf("%+v of %+v", first, g)
		}
	}
	if min(seen[0], seen[1]) < 2000 {
		t.Errorf("%v", seen)
	}
}

// G3: what Audit answers is new memory; writing into it is seen nowhere.
func TestNewMemory(t *testing.T) {
	x, trace := two(), texts("gg gg rr lr")
	first, second := audit(t, x, trace), audit(t, x, trace)
	want := slices.Clone(second)
	first = first[:cap(first)]
	for i := range first {
		first[i] = al(9, 9, 9, 9)
	}
	if len(want) == 0 || !slices.Equal(second, want) || !slices.Equal(audit(t, x, trace), want) {
		t.Errorf("%v and %v, want %v", second, audit(t, x, trace), want)
	}
	if !reflect.DeepEqual(x, two()) || !slices.Equal(trace, texts("gg gg rr lr")) {
		t.Errorf("changed: %+v, %q", x, trace)
	}
}

// G4: nil and empty lists count as the same.
func TestNilAndEmpty(t *testing.T) {
	bare, full := api.Tables{}, api.Tables{Groups: []api.Group{}, Conflicts: []api.Conflict{}}
	for _, x := range []api.Tables{bare, full, two(), {Groups: two().Groups}, {Groups: two().Groups, Conflicts: []api.Conflict{}}} {
		for _, trace := range [][]string{nil, {}} {
			checkTrace(t, x, trace, nil)
		}
	}
	for _, conflicts := range [][]api.Conflict{nil, {}} {
		checkTrace(t, api.Tables{Groups: two().Groups, Conflicts: conflicts}, texts("rr gg gg"), nil)
	}
}

// Chapter 15's Ways: all workers have ended when Audit answers, be there alarms or none. It is not parallel: no other test starts any meanwhile.
func TestWorkersEnd(t *testing.T) {
	ahead := runtime.NumGoroutine()
	x := free(40)
	reds, greens := strings.Repeat("r", 40), strings.Repeat("g", 40)
	for range 30 {
		audit(t, x, []string{reds, greens, reds, greens})
		audit(t, x, []string{reds, reds, reds})
		audit(t, x, []string{reds, "x", greens})
		audit(t, x, nil)
		watch.Audit(unsound()[0], []string{reds})
		judge(t, x, []string{reds, greens})
	}
	// One that has told that it ends may take a moment to be gone.
	for range 200 {
		if runtime.NumGoroutine() <= ahead {
			return
		}
		time.Sleep(10 * time.Millisecond)
	}
	t.Errorf("%d goroutines, %d ahead of it", runtime.NumGoroutine(), ahead)
}

// G2: what Audit answers does not hang on how its workers run, nor on other calls that are made at the same time.
func TestAtTheSameTime(t *testing.T) {
	t.Parallel()
	var wait sync.WaitGroup
	for i := range int64(8) {
		wait.Go(func() {
			for seed := range int64(60) {
				g := wildThings(t, rand.New(rand.NewSource(seed*8+i)))
				first := calls(g)
				for range 5 {
					if again := calls(g); !reflect.DeepEqual(first, again) {
						t.Errorf("%+v, then %+v", first, again)
					}
				}
			}
		})
	}
	wait.Wait()
}

// held is the memory that is in use.
func held() uint64 {
	var m runtime.MemStats
	runtime.GC()
	runtime.ReadMemStats(&m)
	return m.HeapAlloc
}

// The chapter: Feed costs no more than going over the tables once, however much has been fed; so the texts are not kept. It is not parallel: it looks at memory and time.
func TestFeedIsCheap(t *testing.T) {
	const ticks = 1 << 20
	m := begun(t, free(3))
	ahead, began := held(), time.Now()
	for i := range ticks {
		if a := m.Feed([]string{"rrr", "grr", "rgr", "rrg"}[i%4]); a != (api.Alarm{}) {
			t.Fatalf("tick %d: %v", i, a)
		}
	}
	if took := time.Since(began); took > 20*time.Second {
		t.Errorf("it took %v", took)
	}
	if more := int64(held() - ahead); more > ticks {
		t.Errorf("%d bytes are kept", more)
	}
	checkFed(t, "a million ticks later", m, "ggr", al(7, ticks, 0, 1))
}

// G1: texts and traces far above all limits are through soon.
func TestLarge(t *testing.T) {
	t.Parallel()
	began := time.Now()
	const size = 1 << 24
	huge := strings.Repeat("g", size)
	checkTrace(t, two(), []string{"rr", huge, "rr"}, []api.Alarm{al(1, 1, -1, -1)})
	if lamps := watch.Lamps(huge, true, 1); len(lamps) != size || strings.Trim(lamps, ".") != "" {
		t.Errorf("%d lamps", len(lamps))
	}
	checkTrace(t, api.Tables{}, make([]string, size/16), nil)
	long := slices.Repeat([]string{"rr"}, size/16)
	checkTrace(t, two(), long, nil)
	long[len(long)-1] = "gr"
	checkTrace(t, two(), long, nil)
	long[0] = "rg"
	checkTrace(t, two(), long, []api.Alarm{al(2, 0, 1, -1), al(3, 1, 1, -1), al(6, 1, 1, -1)})
	checkTrace(t, free(64), slices.Repeat([]string{strings.Repeat("r", 64)}, 20000), nil)
	if took := time.Since(began); took > 30*time.Second {
		t.Errorf("it took %v", took)
	}
}
