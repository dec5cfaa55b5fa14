package timetable_test

import (
	"math"
	"math/rand"
	"reflect"
	"runtime"
	"strings"
	"sync"
	"testing"
	"time"

	"junction/api"
	"junction/timetable"
)

// given is what calls are made with.
type given struct {
	Table   api.Timetable
	Text    string
	Numbers [3]int // a date, a day, a minute, a time's ends
}

// answer is all that the calls answer.
type answer struct {
	Table    api.Timetable
	Fault    api.Fault
	Text     string
	Sound    api.Errno
	Numbers  [10]int // of DayNumber, Date, Weekday, Local, KindOf, At, Next
	Errnos   [8]api.Errno
	Switches [][2]int
}

// calls makes all of them.
func calls(g given) answer {
	var a answer
	n, e := &a.Numbers, &a.Errnos
	a.Table, a.Fault = timetable.Parse(g.Text)
	a.Sound = timetable.Sound(g.Table)
	a.Text, e[0] = timetable.Print(g.Table)
	n[0], e[1] = timetable.DayNumber(g.Numbers[0], g.Numbers[1], g.Numbers[2])
	n[1], n[2], n[3], e[2] = timetable.Date(g.Numbers[0])
	n[4], e[3] = timetable.Weekday(g.Numbers[0])
	n[5], e[4] = timetable.Local(g.Table, g.Numbers[1])
	n[6], e[5] = timetable.KindOf(g.Table, g.Numbers[0])
	n[7], e[6] = timetable.At(g.Table, g.Numbers[1])
	n[8], n[9], e[7] = timetable.Next(g.Table, g.Numbers[1])
	a.Switches = all(g.Table, g.Numbers[1], g.Numbers[2])
	return a
}

// wildThings are right, or wrong in some things.
func wildThings(r *rand.Rand) given {
	n := func() int {
		return pick(r, 0, 1, 5, 12, 31, 2000, 2026, 2399, 2400, lastDay, lastDay+1, lastMinute, lastMinute+1, -1, r.Intn(lastMinute), r.Intn(lastDay), math.MinInt, math.MaxInt)
	}
	g := given{Table: roomy(wildTable(r)), Numbers: [3]int{n(), n(), n()}}
	switch r.Intn(3) {
	case 0:
		g.Numbers = [3]int{2000 + r.Intn(400), 1 + r.Intn(12), 1 + r.Intn(28)}
	case 1:
		from := anyDay(r) * 1440
		g.Numbers = [3]int{anyDay(r), from, min(from+1+r.Intn(44640), lastMinute)}
	}
	g.Text = smudged(r, dressed(r, modelPrint(anyTable(r, anyDay(r)))))
	if r.Intn(10) == 0 {
		b := make([]byte, r.Intn(300))
		r.Read(b)
		g.Text = string(b)
	}
	return g
}

// G1 to G3, G5: whatever is given, no call panics, keeps or changes anything; a refusal has nothing beside it; the same is answered of the same.
func TestGarbage(t *testing.T) {
	t.Parallel()
	seen := map[api.Errno]int{}
	for seed := range int64(6000) {
		// Of one seed come the same things, in new memory.
		g, h := wildThings(rand.New(rand.NewSource(seed))), wildThings(rand.New(rand.NewSource(seed)))
		first := calls(g)
		if !reflect.DeepEqual(g, h) || !reflect.DeepEqual(whole(g.Table), whole(h.Table)) {
			t.Fatalf("G3: seed %d: changed", seed)
		}
		if again := calls(h); !reflect.DeepEqual(first, again) {
			t.Fatalf("G2: seed %d: another answer", seed)
		}
		for i, empty := range []bool{first.Text == "", first.Numbers[0] == 0, [3]int(first.Numbers[1:4]) == [3]int{}, first.Numbers[4] == 0, first.Numbers[5] == 0, first.Numbers[6] == 0, first.Numbers[7] == 0, [2]int(first.Numbers[8:]) == [2]int{}} {
			if first.Errnos[i] != api.OK && !empty {
				t.Fatalf("G5: seed %d: %d of call %d, and something beside it", seed, first.Errnos[i], i)
			}
			if e := first.Errnos[i]; e != api.OK && (e < api.ErrTableSource || e > api.ErrTableWhen) {
				t.Fatalf("G5: seed %d: %d", seed, e)
			}
			seen[first.Errnos[i]]++
		}
		if first.Fault.Code != api.OK && !same(first.Table, api.Timetable{}) {
			t.Fatalf("G5: seed %d: %v, and something beside it", seed, first.Fault)
		}
		if first.Sound != api.OK && len(first.Switches) > 0 {
			t.Fatalf("P18.7: seed %d: %v", seed, first.Switches)
		}
	}
	for e := api.ErrTableLine; e <= api.ErrTableWhen; e++ {
		if seen[e] < 50 {
			t.Errorf("%v", seen)
		}
	}
}

// G3: what is answered is new memory, and no two lists of it share any.
func TestNewMemory(t *testing.T) {
	for _, text := range []string{example, head + week, listText(16, 48, 16, 64, 16), listText(3, 2, 1, 1, 1)} {
		first, second := parsed(t, text), parsed(t, text)
		if share(append(pieces(first), pieces(second)...)...) {
			t.Fatalf("G3: lists share memory")
		}
		ruin(first)
		if third := parsed(t, text); !same(second, third) || share(append(pieces(second), pieces(third)...)...) {
			t.Fatalf("G3: an answer is seen in another one")
		}
	}
}

// G3: a kind's rows can grow without being seen in another's.
func TestRowsGrow(t *testing.T) {
	table, kept := parsed(t, listText(4, 1, 0, 0, 0)), parsed(t, listText(4, 1, 0, 0, 0))
	for i := range table.Days {
		_ = append(table.Days[i].Rows, api.Row{Minute: 99, Slot: 9}, api.Row{Minute: 99, Slot: 9})
	}
	if !same(table, kept) {
		t.Errorf("G3: %+v, want %+v", table, kept)
	}
}

// G4: nil and empty lists count as the same.
func TestNilAndEmpty(t *testing.T) {
	nils := api.Timetable{Name: "a", Days: []api.DayKind{{Name: "b", Rows: []api.Row{{Minute: 3, Slot: 3}}}}}
	empty := nils
	empty.Seasons, empty.Excepts, empty.Shifts = []api.Season{}, make([]api.Except, 0, 9), []api.Shift{}
	for _, numbers := range [][3]int{{2000, 5, 1000}, {9, 5000, 9000}} {
		if a, b := calls(given{Table: nils, Numbers: numbers}), calls(given{Table: empty, Numbers: numbers}); !reflect.DeepEqual(a, b) {
			t.Errorf("G4: %+v, %+v", a, b)
		}
	}
	for _, table := range []api.Timetable{{Name: "a"}, {Name: "a", Days: []api.DayKind{}}, {Name: "a", Days: []api.DayKind{{Name: "b"}}}, {Name: "a", Days: []api.DayKind{{Name: "b", Rows: []api.Row{}}}}} {
		if e := timetable.Sound(table); e != api.ErrTableLack {
			t.Errorf("G4: %d", e)
		}
	}
}

// G2: what is answered does not hang on other calls that are made at the same time, with the same arguments too.
func TestAtTheSameTime(t *testing.T) {
	t.Parallel()
	var wait sync.WaitGroup
	for i := range int64(8) {
		g := wildThings(rand.New(rand.NewSource(i)))
		want := calls(g)
		const from, to = 9780 * 1440, 9790 * 1440
		switches := timetable.Switches(parsed(t, example), from, to)
		list := newModel(parsed(t, example)).switches(from, to)
		for range 4 {
			wait.Go(func() {
				for range 30 {
					if got := calls(g); !reflect.DeepEqual(got, want) {
						t.Errorf("G2: seed %d: another answer", i)
					}
					n := 0
					for m, slot := range switches {
						if list[n] != [2]int{m, slot} {
							t.Errorf("G2: %d, %d, want %v", m, slot, list[n])
						}
						n++
					}
				}
			})
		}
	}
	wait.Wait()
}

// Nothing is kept from call to call. It is not parallel: it looks at memory.
func TestKeepsNothing(t *testing.T) {
	heap := func() int64 {
		var m runtime.MemStats
		runtime.GC()
		runtime.ReadMemStats(&m)
		return int64(m.HeapAlloc)
	}
	g := given{Table: fullTable(), Text: listText(16, 48, 16, 64, 16), Numbers: [3]int{2026, 1440, 3000}}
	calls(g)
	ahead := heap()
	for range 200 {
		calls(g)
	}
	if more := heap() - ahead; more > 1<<20 {
		t.Errorf("%d bytes more are kept", more)
	}
}

// G1: what is far above all limits is through soon.
func TestLarge(t *testing.T) {
	t.Parallel()
	began := time.Now()
	const size = 1 << 20
	huge := api.Timetable{Name: "a", Days: make([]api.DayKind, size), Seasons: make([]api.Season, size), Excepts: make([]api.Except, size), Shifts: make([]api.Shift, size)}
	for i := range huge.Days {
		huge.Days[i] = api.DayKind{Name: "b", Rows: make([]api.Row, 1)}
	}
	checkSound(t, "many of all", huge, api.ErrTableFull)
	huge.Days = []api.DayKind{{Name: "b", Rows: make([]api.Row, size)}}
	checkSound(t, "many rows", huge, api.ErrTableFull)
	huge.Name = strings.Repeat("x", 16*size)
	checkSound(t, "a long name", huge, api.ErrTableLine)
	checkFault(t, strings.Repeat("timetable a\n", size), api.ErrTableSource)
	for _, fill := range []string{"x", " ", "\n", "#", "day ", "\xff"} {
		text := strings.Repeat(fill, 65536/len(fill))
		for range 20 {
			timetable.Parse(text)
			timetable.Parse("timetable " + text[:65000])
			timetable.Parse("timetable a\nday b\nat 00:00 flash\n" + text[:65000])
		}
	}
	if took := time.Since(began); took > 20*time.Second {
		t.Errorf("it took %v", took)
	}
}

// What At, Local, KindOf and Next cost: nowhere do they go through minutes or days one by one.
func TestCost(t *testing.T) {
	t.Parallel()
	table := fullTable()
	for _, k := range table.Days {
		for i := range k.Rows {
			k.Rows[i].Slot = 3
		}
	}
	began := time.Now()
	for i := range 2000 {
		minute := lastMinute - i*1000
		checkNext(t, "P18.6", table, minute, -1, 3)
		checkAt(t, "P18.5", table, minute, 3)
		timetable.Local(table, minute)
		timetable.KindOf(table, minute/1440)
	}
	if took := time.Since(began); took > 10*time.Second {
		t.Errorf("it took %v", took)
	}
}
