package watch_test

import (
	"fmt"
	"math/rand"
	"strings"
	"testing"

	"junction/api"
	"junction/heads"
	"junction/watch"
)

// two are the tables of the chapter's examples.
func two() api.Tables {
	return api.Tables{
		Groups:    []api.Group{{Name: "a", Sort: api.Vehicle, Min: 2, Amber: 1}, {Name: "b", Sort: api.Vehicle, Min: 2, Amber: 1}},
		Conflicts: []api.Conflict{{A: 0, B: 1, AB: 3, BA: 2}},
	}
}

// lone is one group.
func lone(minimum, amber, lead int) api.Tables {
	return api.Tables{Groups: []api.Group{{Sort: api.Pedestrian, Min: minimum, Amber: amber, Lead: lead}}}
}

// free are n groups of which any letter may last for a tick, each in conflict with all others, with no intergreen.
func free(n int) api.Tables {
	var x api.Tables
	for a := range n {
		x.Groups = append(x.Groups, api.Group{Sort: api.Vehicle, Min: 1})
		for b := a + 1; b < n; b++ {
			x.Conflicts = append(x.Conflicts, api.Conflict{A: a, B: b})
		}
	}
	return x
}

// al is an alarm.
func al(kind, tick, a, b int) api.Alarm { return api.Alarm{Kind: kind, Tick: tick, A: a, B: b} }

// texts is a trace whose texts stand in a row.
func texts(row string) []string { return strings.Fields(row) }

// columns is a trace that is told group by group, a column for each of all its ticks.
func columns(list ...string) []string {
	trace := make([]string, len(list[0]))
	for i := range trace {
		for _, column := range list {
			trace[i] += column[i : i+1]
		}
	}
	return trace
}

// audit is what Audit answers of sound tables.
func audit(t *testing.T, x api.Tables, trace []string) []api.Alarm {
	t.Helper()
	list, e := watch.Audit(x, trace)
	if e != api.OK {
		t.Fatalf("Audit: %d of %+v", e, x)
	}
	return list
}

// judge is what Judge answers of sound tables.
func judge(t *testing.T, x api.Tables, trace []string) api.Alarm {
	t.Helper()
	a, e := watch.Judge(x, trace)
	if e != api.OK {
		t.Fatalf("Judge: %d of %+v", e, x)
	}
	return a
}

// begun is a new monitor of sound tables.
func begun(t *testing.T, x api.Tables) *watch.Monitor {
	t.Helper()
	m, e := watch.New(x)
	if e != api.OK || m == nil {
		t.Fatalf("New: %d of %+v", e, x)
	}
	return m
}

// fed is what a monitor answers to each text of a trace.
func fed(m *watch.Monitor, trace []string) []api.Alarm {
	list := make([]api.Alarm, len(trace))
	for i, text := range trace {
		list[i] = m.Feed(text)
	}
	return list
}

// told is a trace and its tables for a failure's text.
func told(x api.Tables, trace []string) string {
	return fmt.Sprintf("%.3000q over %.1000s", trace, fmt.Sprintf("%+v", x))
}

// checkTrace holds all calls that look at a trace against its alarms.
func checkTrace(t *testing.T, x api.Tables, trace []string, want []api.Alarm) {
	t.Helper()
	list := audit(t, x, trace)
	same := len(list) == len(want)
	for i := 0; same && i < len(list); i++ {
		same = list[i] == want[i]
	}
	if !same {
		t.Fatalf("Audit: %v, want %v of %s", list, want, told(x, trace))
	}
	var first api.Alarm
	if len(want) > 0 {
		first = want[0]
	}
	if a := judge(t, x, trace); a != first {
		t.Fatalf("Judge: %v, want %v of %s", a, first, told(x, trace))
	}
	m := begun(t, x)
	for i, a := range fed(m, trace) {
		due := api.Alarm{}
		if first.Kind != api.AlNone && i == first.Tick {
			due = first
		}
		if a != due {
			t.Fatalf("Feed at tick %d: %v, want %v of %s", i, a, due, told(x, trace))
		}
	}
	if m.Tripped() != first {
		t.Fatalf("Tripped: %v, want %v of %s", m.Tripped(), first, told(x, trace))
	}
}

func pick[T any](r *rand.Rand, list ...T) T { return list[r.Intn(len(list))] }

// anyTables are sound tables of that many groups, with small numbers, so that much happens in few ticks.
func anyTables(r *rand.Rand, groups int) api.Tables {
	var x api.Tables
	for i := range groups {
		x.Groups = append(x.Groups, api.Group{Name: fmt.Sprint("g", i), Sort: 1 + r.Intn(2), Min: 1 + r.Intn(4), Amber: r.Intn(4), Lead: r.Intn(4)})
	}
	dense := 1 + r.Intn(4)
	for a := range groups {
		for b := a + 1; b < groups; b++ {
			if r.Intn(dense) == 0 {
				x.Conflicts = append(x.Conflicts, api.Conflict{A: a, B: b, AB: r.Intn(7), BA: r.Intn(7)})
			}
		}
	}
	return x
}

// anyWants are n masks, of which some last for a while; bits of no group too.
func anyWants(r *rand.Rand, n int) []uint64 {
	wants, lasts := make([]uint64, n), pick(r, 1, 3, 12)
	for i := range wants {
		if i > 0 && r.Intn(lasts) > 0 {
			wants[i] = wants[i-1]
		} else {
			wants[i] = pick(r, 0, r.Uint64(), r.Uint64()&r.Uint64(), 1<<r.Intn(8), ^uint64(0))
		}
	}
	return wants
}

// safeTrace is what the heads show of any wants.
func safeTrace(t *testing.T, r *rand.Rand, x api.Tables, ticks int) []string {
	t.Helper()
	trace, e := heads.Run(x, anyWants(r, ticks))
	if e != api.OK {
		t.Fatalf("heads.Run: %d of %+v", e, x)
	}
	return trace[:ticks]
}

// looseTrace has each group go on by its own times mostly, whatever the others show.
func looseTrace(r *rand.Rand, x api.Tables, ticks int) []string {
	list := make([]string, len(x.Groups))
	for i, g := range x.Groups {
		var b strings.Builder
		for b.Len() < ticks {
			for _, part := range []struct {
				letter string
				long   int
			}{{"r", 1 + r.Intn(9)}, {"l", g.Lead}, {"g", g.Min + r.Intn(3)}, {"a", g.Amber}} {
				if r.Intn(12) == 0 {
					part.long = max(part.long+r.Intn(3)-1, 0)
				}
				b.WriteString(strings.Repeat(part.letter, part.long))
			}
		}
		list[i] = b.String()[:ticks]
	}
	if len(list) == 0 {
		return make([]string, ticks)
	}
	return columns(list...)
}

// anyLetters are letters at random, one of them more often.
func anyLetters(r *rand.Rand, x api.Tables, ticks int) []string {
	trace, letters := make([]string, ticks), pick(r, "rlga", "rrrrlga", "rg", "ga")
	for i := range trace {
		text := make([]byte, len(x.Groups))
		for g := range text {
			text[g] = letters[r.Intn(len(letters))]
			if i > 0 && r.Intn(2) == 0 {
				text[g] = trace[i-1][g]
			}
		}
		trace[i] = string(text)
	}
	return trace
}

// spoilt is a trace in which one thing is another: a letter, a text, the order.
func spoilt(r *rand.Rand, trace []string) []string {
	if len(trace) == 0 {
		return trace
	}
	trace = append([]string(nil), trace...)
	i, j := r.Intn(len(trace)), r.Intn(len(trace))
	switch kind := r.Intn(20); {
	case kind == 0:
		trace[i] = pick(r, "", "r", trace[i]+"r", trace[i]+trace[i], "\xff", "rrrrrrrrrrrrrrrr")
	case kind < 3 && trace[i] != "":
		text := []byte(trace[i])
		text[r.Intn(len(text))] = pick(r, []byte("R.?b\x00\xff G")...)
		trace[i] = string(text)
	case kind < 6:
		trace = append(trace[:i], trace[i+1:]...)
	case kind < 9:
		trace = append(trace[:i+1], trace[i:]...)
	case kind < 12:
		trace[i], trace[j] = trace[j], trace[i]
	case trace[i] != "":
		text := []byte(trace[i])
		text[r.Intn(len(text))] = "rlga"[r.Intn(4)]
		trace[i] = string(text)
	}
	return trace
}

// anyTrace is safe, nearly safe, or anything else.
func anyTrace(t *testing.T, r *rand.Rand, x api.Tables, ticks int) []string {
	t.Helper()
	var trace []string
	switch r.Intn(3) {
	case 0:
		trace = safeTrace(t, r, x, ticks)
	case 1:
		trace = looseTrace(r, x, ticks)
	case 2:
		trace = anyLetters(r, x, ticks)
	}
	for range pick(r, 0, 0, 1, 1, 2, 5) {
		trace = spoilt(r, trace)
	}
	return trace
}
