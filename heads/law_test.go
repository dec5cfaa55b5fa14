package heads_test

import (
	"fmt"
	"math/rand"
	"slices"
	"strings"
	"testing"

	"junction/api"
	"junction/heads"
	"junction/safety"
)

// run is the pictures of a run that is not refused.
func run(t *testing.T, x api.Tables, wants []uint64) []string {
	t.Helper()
	list, e := heads.Run(x, wants)
	if e != api.OK || len(list) != len(wants)+1 {
		t.Fatalf("%d pictures, %d: %x in %+v", len(list), e, wants, x)
	}
	return list
}

// P7.7: whatever is wanted, the pictures alone are safe.
func TestSafe(t *testing.T) {
	t.Parallel()
	r := rand.New(rand.NewSource(77))
	letters := map[rune]int{}
	for range 4000 {
		x := anyTables(r, pick(r, 1, 2, 3, 4, 6, 9), r.Intn(8) > 0)
		wants := anyWants(r, x, r.Intn(120))
		list := run(t, x, wants)
		if what := danger(x, list); what != "" {
			t.Fatalf("%s: %v: %x in %+v", what, list, wants, x)
		}
		for _, letter := range strings.Join(list, "") {
			letters[letter]++
		}
	}
	if min(letters['r'], letters['l'], letters['g'], letters['a']) < 20000 {
		t.Errorf("too few of a kind: %v", letters)
	}
}

// P7.7: with the greatest numbers there are.
func TestSafeAtLimits(t *testing.T) {
	x := two()
	x.Groups[0] = api.Group{Sort: api.Vehicle, Min: 3600, Amber: 60, Lead: 60}
	x.Conflicts[0].AB, x.Conflicts[0].BA = 3600, 3600
	wants := slices.Concat(slices.Repeat([]uint64{1}, 3600), slices.Repeat([]uint64{2}, 7400))
	list := run(t, x, wants)
	if what := danger(x, list); what != "" {
		t.Fatal(what)
	}
	var parts []string
	for at := 0; at < len(list); {
		n := at
		for n < len(list) && list[n] == list[at] {
			n++
		}
		parts = append(parts, fmt.Sprint(list[at], " ", n-at))
		at = n
	}
	want := []string{"rr 3600", "lr 60", "gr 3600", "ar 60", "rr 3540", "rg 141"}
	if !slices.Equal(parts, want) {
		t.Errorf("%v, want %v", parts, want)
	}
}

// The pictures that danger refuses: else the tests above would tell nothing.
func TestDanger(t *testing.T) {
	x := two()
	pair := func(columns ...string) []string {
		var list []string
		for i := range columns[0] {
			list = append(list, columns[0][i:i+1]+columns[1][i:i+1])
		}
		return list
	}
	for i, c := range []struct {
		a, b string
		safe bool
	}{
		{"r", "r", true},
		{"rrggarr", "rrrrrrr", true},
		{"rrggarrrr", "rrrrrrrgg", true},
		{"rrggarrrr", "rrrrrrggg", false}, // 3 from 0 to 1
		{"rrggarrrr", "rrrrrgggg", false},
		{"rrrrrrrrg", "rrrggarrr", true},
		{"rrrrrrrg", "rrrggarr", true},
		{"rrrrrrg", "rrrggar", false}, // 2 from 1 to 0
		{"rggar", "rrrrr", false},     // as if 1 had been green at picture -1
		{"rrrr", "rrgg", false},
		{"rrrrr", "rrrgg", true},
		{"g", "r", false},
		{"rrrg", "rrrg", false},
		{"rrrar", "rrrrr", false},
		{"rrrgarr", "rrrrrrr", false},   // Min
		{"rrrggrr", "rrrrrrr", false},   // Amber
		{"rrrggaa", "rrrrrrr", false},   // Amber
		{"rrrlggar", "rrrrrrrr", false}, // Lead
		{"rrrggagg", "rrrrrrrr", false},
		{"rrrggag", "rrrrrrr", false},
		{"rrrg", "rrrr", true},
		{"rrrggggggggga", "rrrrrrrrrrrrr", true},
		{"rrrg?", "rrrrr", false},
	} {
		if what := danger(x, pair(c.a, c.b)); (what == "") != c.safe {
			t.Errorf("row %d: %q", i, what)
		}
	}
	led := lone(2, 2, 2)
	for _, c := range []struct {
		column string
		safe   bool
	}{
		{"rl", true}, {"rll", true}, {"rllg", true}, {"rllgga", true}, {"rllggaar", true},
		{"rlll", false}, {"rlg", false}, {"rg", false}, {"rlr", false}, {"rllr", false}, {"rlla", false}, {"rllga", false}, {"rllggar", false}, {"rllggaaa", false}, {"rllggl", false}, {"rllggaal", false},
	} {
		if what := danger(led, strings.Split(c.column, "")); (what == "") != c.safe {
			t.Errorf("%s: %q", c.column, what)
		}
	}
}

// P7.8: the pictures of a run behind those of another, however they end.
func TestSeam(t *testing.T) {
	t.Parallel()
	r := rand.New(rand.NewSource(78))
	soon := 0
	for range 4000 {
		x := anyTables(r, 2+r.Intn(5), true)
		first := run(t, x, anyWants(r, x, r.Intn(40)))
		second := run(t, x, anyWants(r, x, r.Intn(40)))
		all := slices.Concat(first, second)
		if what := clash(x, all) + early(x, all); what != "" {
			t.Fatalf("%s: %v in %+v", what, all, x)
		}
		if strings.Contains(first[len(first)-1], "g") {
			soon++
		}
	}
	if soon < 500 {
		t.Errorf("only %d seams behind a green", soon)
	}
}

// settling is how many steps it takes until the heads are settled; most+1: they are not by then.
func settling(t *testing.T, x api.Tables, h api.Heads, want uint64, most int) (int, api.Heads) {
	t.Helper()
	for n := range most + 1 {
		if heads.Settled(x, h, want) {
			return n, h
		}
		var e api.Errno
		if h, e = heads.Step(x, h, want); e != api.OK {
			t.Fatalf("%d: %x from %v in %+v", e, want, h, x)
		}
	}
	return most + 1, h
}

// P7.9: from any sound heads on they settle within the bound, and stay so.
func TestSettling(t *testing.T) {
	t.Parallel()
	r := rand.New(rand.NewSource(79))
	tight := 0
	for range 12000 {
		x := anyTables(r, r.Intn(7), true)
		h, want := anyHeads(r, x), anyMask(r, x, true)
		most := bound(x)
		n, end := settling(t, x, h, want, most)
		if n > most {
			t.Fatalf("not within %d steps: %x from %v in %+v", most, want, h, x)
		}
		if n == most && n > 0 {
			tight++
		}
		for range 9 {
			end, _ = heads.Step(x, end, want)
			if !heads.Settled(x, end, want) {
				t.Fatalf("it did not stay: %v: %x from %v in %+v", end, want, h, x)
			}
		}
	}
	if tight < 20 {
		t.Errorf("only %d took all of the bound", tight)
	}
}

// P7.9: the bound of the chapter's example, and heads that take all of it.
func TestSettlingBound(t *testing.T) {
	wide := two()
	for g := range wide.Groups {
		wide.Groups[g] = api.Group{Sort: api.Vehicle, Min: 3600, Amber: 60, Lead: 60}
	}
	wide.Conflicts[0].AB = 3600
	dark := two()
	dark.Groups[0].Amber, dark.Groups[0].Lead, dark.Groups[1].Lead = 7, 2, 2
	for i, c := range []struct {
		tables api.Tables
		h      api.Heads
		want   uint64
		bound  int
	}{
		{two(), headsOf([3]int{green, 1, 0}, [3]int{red, 1, 1}), 2, 5},
		{dark, headsOf([3]int{lead, 1, 1}, [3]int{red, 1, 1}), 2, 13},
		{wide, headsOf([3]int{lead, 1, 1}, [3]int{red, 1, 1}), 2, 7320},
		{api.Tables{}, api.Heads{}, 1, 0},
	} {
		n, _ := settling(t, c.tables, c.h, c.want, c.bound)
		if n != c.bound || n != bound(c.tables) {
			t.Errorf("row %d: %d steps, want %d, the bound is %d", i, n, c.bound, bound(c.tables))
		}
	}
}

// joined are two tables in one, the groups of both mixed; home tells of each group whose it is.
func joined(r *rand.Rand, parts [2]api.Tables) (whole api.Tables, home []int, places [2][]int) {
	for len(places[0]) < len(parts[0].Groups) || len(places[1]) < len(parts[1].Groups) {
		k := r.Intn(2)
		if len(places[k]) == len(parts[k].Groups) {
			k = 1 - k
		}
		whole.Groups = append(whole.Groups, parts[k].Groups[len(places[k])])
		places[k] = append(places[k], len(home))
		home = append(home, k)
	}
	for k, part := range parts {
		for _, c := range part.Conflicts {
			c.A, c.B = places[k][c.A], places[k][c.B]
			whole.Conflicts = append(whole.Conflicts, c)
		}
	}
	slices.SortFunc(whole.Conflicts, func(c, d api.Conflict) int { return (c.A-d.A)*64 + c.B - d.B })
	return whole, home, places
}

// P7.10: two junctions in one show what each shows alone.
func TestApart(t *testing.T) {
	t.Parallel()
	r := rand.New(rand.NewSource(710))
	for range 2500 {
		parts := [2]api.Tables{anyTables(r, r.Intn(6), true), anyTables(r, r.Intn(6), true)}
		whole, home, places := joined(r, parts)
		wants := anyWants(r, whole, r.Intn(60))
		list := run(t, whole, wants)
		var own [2][]string
		for k := range parts {
			mine := make([]uint64, len(wants))
			for i, want := range wants {
				for g, at := range places[k] {
					mine[i] |= want >> at & 1 << g
				}
			}
			own[k] = run(t, parts[k], mine)
		}
		for i, picture := range list {
			var next [2]int
			for g, k := range home {
				if picture[g] != own[k][i][next[k]] {
					t.Fatalf("picture %d: %q, %q and %q alone: %x in %+v", i, picture, own[0][i], own[1][i], wants, whole)
				}
				next[k]++
			}
		}
	}
}

// settledOn are heads settled on a mask, all other groups away from green for so long at least; its groups green for their Min at least, or just those that are not in kept.
func settledOn(r *rand.Rand, x api.Tables, mask, kept uint64, away int) api.Heads {
	rows := make([][3]int, len(x.Groups))
	for g, row := range x.Groups {
		switch {
		case in(mask&kept, g):
			rows[g] = [3]int{green, 1 + r.Intn(9), 0}
		case in(mask, g):
			rows[g] = [3]int{green, pick(r, row.Min, row.Min+r.Intn(9), top), 0}
		default:
			rows[g] = [3]int{red, 1 + r.Intn(9), pick(r, away, away, away+r.Intn(9), top)}
		}
	}
	return headsOf(rows...)
}

// P6.11 (here, as it asks for the steps of the heads): from heads that have been settled for long it takes just Span steps, from any that are settled and pass the Gate at most Longest.
func TestSpanAndLongest(t *testing.T) {
	t.Parallel()
	r := rand.New(rand.NewSource(611))
	late, young := 0, 0
	for range 12000 {
		x := anyTables(r, 1+r.Intn(6), r.Intn(50) > 0)
		from, to := anyMask(r, x, true), anyMask(r, x, true)
		span, e := safety.Span(x, from, to)
		longest, f := safety.Longest(x, from, to)
		if e != api.OK || f != api.OK {
			t.Fatalf("%d, %d: %x, %x in %+v", e, f, from, to, x)
		}
		widest := 0
		for _, c := range x.Conflicts {
			widest = max(widest, c.AB, c.BA)
		}
		if n, _ := settling(t, x, settledOn(r, x, from, 0, widest+1), to, span+1); n != span {
			t.Fatalf("%d steps, Span is %d: %x, %x in %+v", n, span, from, to, x)
		}
		h := settledOn(r, x, from, to, 1)
		if !heads.Settled(x, h, from) || !heads.Gate(x, h, to) {
			t.Fatalf("%v: %x, %x in %+v", h, from, to, x)
		}
		n, _ := settling(t, x, h, to, longest)
		if n > longest {
			t.Fatalf("not within %d steps: %x, %x from %v in %+v", longest, from, to, h, x)
		}
		if n > span {
			late++
		}
		if !heads.Gate(x, h, 0) {
			young++
		}
	}
	if late < 500 || young < 200 {
		t.Errorf("%d took longer than Span, %d had a green below its minimum", late, young)
	}
}

// P6.11: by hand, with the tables of chapter 6's examples.
func TestSpanByHand(t *testing.T) {
	x := api.Tables{
		Groups:    []api.Group{{Sort: 1, Min: 5, Amber: 3, Lead: 1}, {Sort: 1, Min: 5, Amber: 3, Lead: 1}, {Sort: 2, Min: 4}},
		Conflicts: []api.Conflict{{A: 0, B: 1, AB: 4, BA: 5}, {A: 0, B: 2, AB: 6, BA: 8}},
	}
	rest := [3]int{red, 9, 9}
	for i, c := range []struct {
		h     api.Heads
		want  uint64
		steps int
	}{
		{headsOf([3]int{green, 5, 0}, rest, rest), 2, 6},
		{headsOf([3]int{green, 5, 0}, rest, rest), 6, 7},
		{headsOf(rest, rest, [3]int{green, 4, 0}), 1, 10},
		{headsOf(rest, [3]int{green, 5, 0}, rest), 6, 1},
		{headsOf([3]int{red, 1, 1}, [3]int{green, 5, 0}, rest), 6, 6}, // Longest is 7
		{headsOf(rest, rest, rest), 0, 0},
	} {
		if n, _ := settling(t, x, c.h, c.want, 20); n != c.steps {
			t.Errorf("row %d: %d steps, want %d", i, n, c.steps)
		}
	}
}
