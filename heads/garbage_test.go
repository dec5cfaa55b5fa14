package heads_test

import (
	"math"
	"math/rand"
	"reflect"
	"slices"
	"testing"
	"time"

	"junction/api"
	"junction/check"
	"junction/heads"
)

// calls makes all of them, and tells what they answer.
func calls(x api.Tables, h api.Heads, wants []uint64) []any {
	start, e := heads.Start(x)
	next, f := heads.Step(x, h, wants[0])
	list, g := heads.Run(x, wants)
	return []any{start, e, next, f, list, g, heads.Sound(x, h), heads.Gate(x, h, wants[0]), heads.Settled(x, h, wants[0]), heads.Show(h)}
}

// wild is any number, small ones mostly.
func wild(r *rand.Rand) int {
	return pick(r, -1, 0, 1, 2, 3, 4, 5, 60, 61, 63, 64, 3600, 3601, math.MinInt, math.MaxInt, math.MinInt32, math.MaxInt32)
}

// wildThings are tables and heads that don't fit one another, or just in one thing.
func wildThings(r *rand.Rand) (api.Tables, api.Heads, []uint64) {
	x := anyTables(r, r.Intn(6), r.Intn(2) == 0)
	h, wants := anyHeads(r, x), anyWants(r, x, 1+r.Intn(9))
	for range pick(r, 0, 1, 1, 2, 9) {
		switch r.Intn(7) {
		case 0:
			x.Groups = append(x.Groups, api.Group{Sort: wild(r), Min: wild(r), Amber: wild(r), Lead: wild(r)})
		case 1:
			x.Conflicts = append(x.Conflicts, api.Conflict{A: wild(r), B: wild(r), AB: wild(r), BA: wild(r)})
		case 2:
			x.Groups = x.Groups[:r.Intn(len(x.Groups)+1)]
		case 3:
			r.Shuffle(len(x.Conflicts), func(i, j int) { x.Conflicts[i], x.Conflicts[j] = x.Conflicts[j], x.Conflicts[i] })
		case 4:
			h = pick(r, api.Heads{}, headsOf([3]int{wild(r), wild(r), wild(r)}))
		default:
			h = spoilt(r, h)
		}
	}
	return x, h, wants
}

// G1 to G3, G5: whatever is given, no call panics, keeps or changes anything; a refusal has nothing beside it.
func TestGarbage(t *testing.T) {
	t.Parallel()
	seen := map[[2]bool]int{}
	for seed := range int64(15000) {
		// Of one seed come the same things, in new memory.
		x, h, wants := wildThings(rand.New(rand.NewSource(seed)))
		y, o, others := wildThings(rand.New(rand.NewSource(seed)))
		first := calls(x, h, wants)
		if !reflect.DeepEqual(x, y) || !reflect.DeepEqual(h, o) || !slices.Equal(wants, others) {
			t.Fatalf("changed: %+v, %v, %x\nwas %+v, %v, %x", x, h, wants, y, o, others)
		}
		if again := calls(y, o, others); !reflect.DeepEqual(first, again) {
			t.Fatalf("%v, then %v of %v in %+v", first, again, h, x)
		}
		grid := check.Grid(x)
		fits := grid && modelSound(x, h)
		seen[[2]bool{grid, fits}]++
		none := api.Heads{}
		switch {
		case !grid:
			if !reflect.DeepEqual(first[:9], []any{none, api.ErrTables, none, api.ErrTables, []string(nil), api.ErrTables, false, false, false}) {
				t.Fatalf("%v of %v in %+v", first, h, x)
			}
		case !fits:
			if !reflect.DeepEqual(first[2:4], []any{none, api.ErrHeads}) || !reflect.DeepEqual(first[5:9], []any{api.OK, false, false, false}) {
				t.Fatalf("%v of %v in %+v", first, h, x)
			}
		default:
			if first[1] != api.OK || first[3] != api.OK || first[5] != api.OK || first[6] != true {
				t.Fatalf("%v of %v in %+v", first, h, x)
			}
		}
		if first[9] != modelShow(h) {
			t.Fatalf("Show = %q of %v", first[9], h)
		}
	}
	if seen[[2]bool{false, false}] < 2000 || seen[[2]bool{true, false}] < 2000 || seen[[2]bool{true, true}] < 2000 {
		t.Errorf("too few of a kind: %v", seen)
	}
}

// fill writes over a list and its spare room.
func fill[T any](list []T, with T) {
	list = list[:cap(list)]
	for i := range list {
		list[i] = with
	}
}

// G3: Start's and Step's lists share nothing with one another, with an argument or with another answer.
func TestNewMemory(t *testing.T) {
	answers := []func(h api.Heads) api.Heads{
		func(api.Heads) api.Heads { h, _ := heads.Start(two()); return h },
		func(h api.Heads) api.Heads { h, _ = heads.Step(two(), h, 1); return h },
		func(h api.Heads) api.Heads { h, _ = heads.Step(two(), h, 0); return h },
	}
	for i, answer := range answers {
		// A step at which no aspect changes has no cause to make lists anew but this promise.
		was := headsOf([3]int{red, 1, 1}, [3]int{red, 1, 1})
		h := answer(was)
		want := answer(headsOf([3]int{red, 1, 1}, [3]int{red, 1, 1}))
		fill(h.In, 77)
		if !slices.Equal(h.Away, want.Away) || !slices.Equal(h.Aspect, want.Aspect) {
			t.Errorf("row %d: In shares with another list: %v", i, h)
		}
		fill(h.Away, 88)
		fill(h.Aspect, 99)
		if !same(was, headsOf([3]int{red, 1, 1}, [3]int{red, 1, 1})) {
			t.Errorf("row %d: an answer shares with what was handed in: %v", i, was)
		}
		if slices.Contains(h.In, 88) {
			t.Errorf("row %d: Away shares with In: %v", i, h)
		}
		if again := answer(was); !same(again, want) {
			t.Errorf("row %d: %v, want %v", i, again, want)
		}
	}
	list, _ := heads.Run(two(), []uint64{1, 1})
	fill(list, "x")
	if again, _ := heads.Run(two(), []uint64{1, 1}); !slices.Equal(again, []string{"rr", "rr", "gr"}) {
		t.Errorf("Run: %v", again)
	}
}

// G1: tables at their limits over many ticks, and tables far above theirs, are through at once.
func TestLarge(t *testing.T) {
	began := time.Now()
	x := crowd(64)
	wants := make([]uint64, 30000)
	for i := range wants {
		wants[i] = 1 << (i / 5 % 64)
	}
	list, e := heads.Run(x, wants)
	if e != api.OK || len(list) != len(wants)+1 {
		t.Fatalf("%d pictures, %d", len(list), e)
	}
	if what := clash(x, list[:2000]) + early(x, list[:2000]); what != "" {
		t.Error(what)
	}
	long := api.Tables{Groups: make([]api.Group, 1<<20), Conflicts: make([]api.Conflict, 1<<20)}
	big := api.Heads{Aspect: make([]int, 1<<20)}
	if _, e := heads.Step(long, big, 1); e != api.ErrTables {
		t.Errorf("Step: %d", e)
	}
	if _, e := heads.Step(x, big, 1); e != api.ErrHeads {
		t.Errorf("Step: %d", e)
	}
	if shown := heads.Show(big); len(shown) != 1<<20 {
		t.Errorf("Show: %d letters", len(shown))
	}
	if took := time.Since(began); took > 5*time.Second {
		t.Errorf("it took %v", took)
	}
}
