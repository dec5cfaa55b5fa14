package watch_test

import (
	"fmt"
	"math/rand"
	"slices"
	"strings"
	"testing"

	"junction/api"
	"junction/check"
	"junction/code"
	"junction/driver"
	"junction/sim"
	"junction/vm"
	"junction/watch"
)

// kindOf names an alarm's kind, and whether it is of one group or of two.
func kindOf(a api.Alarm) string { return fmt.Sprint(a.Kind, " ", min(a.A, 0), " ", min(a.B, 0)) }

// P15.1, P15.2, P15.10: all calls against the second way, over traces that are safe, nearly so, or anything else.
func TestTracesAtRandom(t *testing.T) {
	t.Parallel()
	r := rand.New(rand.NewSource(151))
	first, all, clean := map[string]int{}, map[string]int{}, 0
	for range 15000 {
		x := anyTables(r, pick(r, 0, 1, 2, 2, 3, 4, 5))
		trace := anyTrace(t, r, x, r.Intn(60))
		want := modelAudit(x, trace)
		checkTrace(t, x, trace, want)
		for i, a := range want {
			all[kindOf(a)]++
			if i == 0 {
				first[kindOf(a)]++
			}
		}
		if len(want) == 0 {
			clean++
		}
	}
	// AlForm of two sorts, AlStart of two sorts, and one sort of each other kind.
	if len(all) != 10 || len(first) != 10 || clean < 500 {
		t.Errorf("%v, first %v, %d safe", all, first, clean)
	}
	for kind, count := range all {
		if count < 100 || first[kind] < 20 {
			t.Errorf("only %d of %s, %d as the first", count, kind, first[kind])
		}
	}
}

// W10, P15.2: there is no alarm just if the trace is safe as the chapter says it; else the first one is of the first tick with which it is not.
func TestSafeMeansSafe(t *testing.T) {
	t.Parallel()
	r := rand.New(rand.NewSource(10))
	seen := map[bool]int{}
	for range 6000 {
		x := anyTables(r, pick(r, 0, 1, 2, 2, 3, 4))
		trace := anyTrace(t, r, x, r.Intn(40))
		a := judge(t, x, trace)
		good := 0
		for good < len(trace) && isSafe(x, trace[:good+1]) {
			good++
		}
		seen[good == len(trace)]++
		if good == len(trace) && a != (api.Alarm{}) || good < len(trace) && (a.Kind == api.AlNone || a.Tick != good) {
			t.Fatalf("Judge: %v, %d texts are safe of %s", a, good, told(x, trace))
		}
	}
	if min(seen[false], seen[true]) < 1000 {
		t.Errorf("%v", seen)
	}
}

// letter is one of those that stand in the text, by two bits or fewer of a number.
func letter(letters string, n, shift int) string {
	at := n >> shift & (len(letters) - 1)
	return letters[at : at+1]
}

// checkJudge holds Judge against both second ways.
func checkJudge(t *testing.T, x api.Tables, trace []string) {
	t.Helper()
	var first api.Alarm
	want := modelAudit(x, trace)
	if len(want) > 0 {
		first = want[0]
	}
	if a, safe := judge(t, x, trace), isSafe(x, trace); a != first || safe != (len(want) == 0) {
		t.Fatalf("Judge: %v, want %v of %s; safe: %v", a, first, told(x, trace), safe)
	}
}

// W10: over all letters of a few ticks, so that nothing is missed for want of luck.
func TestAllShortTraces(t *testing.T) {
	t.Parallel()
	for _, g := range []api.Group{{Min: 1}, {Min: 2, Amber: 1}, {Min: 1, Lead: 1}, {Min: 2, Amber: 2, Lead: 1}, {Min: 1, Amber: 1, Lead: 2}} {
		g.Sort = api.Vehicle
		for n := range 1 << 14 {
			trace := make([]string, 7)
			for i := range trace {
				trace[i] = letter("rlga", n, 2*i)
			}
			checkJudge(t, api.Tables{Groups: []api.Group{g}}, trace)
		}
	}
	for _, c := range []api.Conflict{{B: 1}, {B: 1, AB: 1}, {B: 1, AB: 2, BA: 1}, {B: 1, BA: 3}} {
		x := api.Tables{Groups: []api.Group{{Sort: 1, Min: 1}, {Sort: 2, Min: 1, Amber: 1}}, Conflicts: []api.Conflict{c}}
		for n := range 1 << 15 {
			trace := []string{"rr"}
			for i := range 5 {
				// The first group is red or green alone, so that more ticks can be gone through.
				trace = append(trace, letter("rg", n, 3*i)+letter("rlga", n, 3*i+1))
			}
			checkJudge(t, x, trace)
		}
	}
}

// P15.11: what the heads show is safe, whatever is wanted; and so is each beginning of it.
func TestHeadsAreSafe(t *testing.T) {
	t.Parallel()
	r := rand.New(rand.NewSource(1511))
	letters := map[rune]int{}
	for range 1500 {
		x := anyTables(r, pick(r, 0, 1, 2, 3, 4, 6, 9))
		if len(x.Groups) > 0 && r.Intn(4) == 0 {
			x.Groups[0].Min, x.Groups[0].Amber = 60, 60
		}
		trace := safeTrace(t, r, x, r.Intn(150))
		checkTrace(t, x, trace, nil)
		for _, letter := range strings.Join(trace, "") {
			letters[letter]++
		}
		for range 3 {
			if a := judge(t, x, trace[:r.Intn(len(trace)+1)]); a != (api.Alarm{}) {
				t.Fatalf("a beginning: %v of %s", a, told(x, trace))
			}
		}
	}
	if min(letters['r'], letters['l'], letters['g'], letters['a']) < 5000 {
		t.Errorf("too few of a kind: %v", letters)
	}
}

// P15.11: what a beginning of a trace raises is what the whole one raises in those ticks: nothing, if it is safe.
func TestBeginnings(t *testing.T) {
	t.Parallel()
	r := rand.New(rand.NewSource(11))
	for range 1500 {
		x := anyTables(r, 1+r.Intn(3))
		trace := anyTrace(t, r, x, r.Intn(40))
		whole := audit(t, x, trace)
		for n := range trace {
			ahead := 0
			for ahead < len(whole) && whole[ahead].Tick < n {
				ahead++
			}
			if list := audit(t, x, trace[:n]); !slices.Equal(list, whole[:ahead]) {
				t.Fatalf("%d texts: %v, want %v of %s", n, list, whole[:ahead], told(x, trace))
			}
		}
	}
}

// anyTyped is a sound typed plan of any stages; their guards hang on time and detectors.
func anyTyped(r *rand.Rand) api.Typed {
	x := api.Typed{Name: "p", Tables: anyTables(r, pick(r, 1, 2, 3, 4, 6)), Dets: []api.Det{{Name: "d0", Latch: true}, {Name: "d1", Hold: 2}}}
	stages := 2 + r.Intn(4)
	for i := range stages {
		s := api.TStage{Name: fmt.Sprint("s", i), Id: i, Green: r.Uint64() & (1<<len(x.Tables.Groups) - 1)}
		for _, c := range x.Tables.Conflicts {
			// With two groups in conflict the stage never comes, and both are wanted for ever.
			if r.Intn(30) > 0 && s.Green>>c.A&1+s.Green>>c.B&1 == 2 {
				s.Green &^= 1 << pick(r, c.A, c.B)
			}
		}
		s.Enter = []api.Stmt{{Kind: api.StClear, Ix: 0}}
		for range 1 + r.Intn(3) {
			s.Nexts = append(s.Nexts, api.TNext{To: (i + 1 + r.Intn(stages-1)) % stages, When: pick(r,
				[]api.Node{{Op: api.OpBool, Val: 1}},
				[]api.Node{{Op: api.OpDet}},
				[]api.Node{{Op: api.OpDet, Val: 1}, {Op: api.OpNot}},
				[]api.Node{{Op: api.OpElapsed}, {Op: api.OpInt, Val: r.Int31n(9)}, {Op: api.OpGe}})})
		}
		x.Stages = append(x.Stages, s)
	}
	x.Start = r.Intn(stages)
	return x
}

// P15.11, W10: no monitor trips at what a plan shows, be it played or run as an image, from New on.
func TestPlansAreSafe(t *testing.T) {
	t.Parallel()
	r := rand.New(rand.NewSource(1110))
	moves := 0
	for range 500 {
		x := anyTyped(r)
		if !check.Sound(x) {
			t.Fatalf("not sound: %+v", x)
		}
		image, e := code.Generate(x)
		machine, f := vm.New(image)
		played, g := sim.New(x)
		if e != api.OK || f != (api.Fault{}) || g != api.OK {
			t.Fatalf("%d, %v, %d of %+v", e, f, g, x)
		}
		first, second := begun(t, x.Tables), begun(t, image.Tables)
		var trace []string
		for tick, in := range anyWants(r, 200) {
			entry, other := played.Tick(in), machine.Tick(in)
			trace = append(trace, entry.Heads)
			if tick > 0 && trace[tick] != trace[tick-1] {
				moves++
			}
			a, b := first.Feed(entry.Heads), second.Feed(other.Heads)
			if a != (api.Alarm{}) || b != (api.Alarm{}) {
				t.Fatalf("Feed: %v and %v of %s", a, b, told(x.Tables, trace))
			}
		}
		checkTrace(t, x.Tables, trace, nil)
	}
	if moves < 20000 {
		t.Errorf("only %d changes", moves)
	}
}

// smallPlan is DOC.md's example.
const smallPlan = `plan small {
	group main vehicle min 7 amber 3 lead 2;
	group side vehicle min 5 amber 3;
	group walk pedestrian min 6 amber 4;
	conflict main side 5 6;
	conflict main walk 4 8;
	detector loop hold 2;
	detector push latch;
	timer rest;
	counter calls;
	var longest = 20;
	cond due = elapsed >= longest or loop and elapsed > 9;
	start flow;
	stage flow { green main; enter { reset rest; run rest; } next cross when push; next turn when due; }
	stage turn { green side; next flow when not loop or elapsed >= 12; }
	stage cross { green side, walk; enter { count calls; clear push; } next flow when elapsed >= 6; }
}`

// W10: a plan that is compiled and run never trips the monitor; with one letter of it another one, it does, unless what is shown is as safe.
func TestCompiled(t *testing.T) {
	t.Parallel()
	r := rand.New(rand.NewSource(12))
	x, f := driver.Analyze(smallPlan)
	entries, g := driver.Play(smallPlan, anyWants(r, 1500))
	if f != (api.Fault{}) || g != (api.Fault{}) {
		t.Fatal(f, g)
	}
	var trace []string
	for _, entry := range entries {
		trace = append(trace, entry.Heads)
	}
	checkTrace(t, x.Tables, trace, nil)
	tripped := 0
	for range 600 {
		i := r.Intn(len(trace))
		text := []byte(trace[i])
		text[r.Intn(3)] = "rlga"[r.Intn(4)]
		worse := slices.Clone(trace)
		worse[i] = string(text)
		if a := judge(t, x.Tables, worse); (a == api.Alarm{}) != isSafe(x.Tables, worse) {
			t.Fatalf("Judge: %v with %s for %s at tick %d of %s", a, worse[i], trace[i], i, told(x.Tables, trace))
		} else if a.Kind != api.AlNone {
			tripped++
		}
	}
	if tripped < 300 {
		t.Errorf("only %d tripped", tripped)
	}
}

// P15.12: a safe trace behind a safe one: what is wrong is wrong at the seam alone, of groups that were not red ahead of it; nothing, if all were.
func TestSeam(t *testing.T) {
	t.Parallel()
	r := rand.New(rand.NewSource(1512))
	kinds, quiet := map[int]int{}, 0
	for range 6000 {
		x := anyTables(r, pick(r, 0, 1, 2, 3, 4, 6))
		first := safeTrace(t, r, x, 1+r.Intn(40))
		second := safeTrace(t, r, x, r.Intn(40))
		if r.Intn(4) == 0 {
			for len(first) > 1 && strings.Trim(first[len(first)-1], "r") != "" {
				first = first[:len(first)-1]
			}
		}
		last, whole := first[len(first)-1], slices.Concat(first, second)
		list := audit(t, x, whole)
		for _, a := range list {
			kinds[a.Kind]++
			if a.Kind < api.AlStep || a.Kind > api.AlMin || a.Tick != len(first) || last[a.A] == 'r' {
				t.Fatalf("%v at the seam %d of %s", a, len(first), told(x, whole))
			}
		}
		if strings.Trim(last, "r") == "" {
			quiet++
			checkTrace(t, x, whole, nil)
		}
		checkTrace(t, x, whole, modelAudit(x, whole))
	}
	if min(kinds[api.AlStep], kinds[api.AlAmber], kinds[api.AlLead], kinds[api.AlMin]) < 200 || quiet < 500 {
		t.Errorf("%v, %d of them all red", kinds, quiet)
	}
}

// P15.12: by hand, and what a third trace behind them raises.
func TestSeamByHand(t *testing.T) {
	x := two()
	x.Groups[1].Lead = 2
	second := texts("rr rr gr gr ar")
	for _, c := range []struct {
		first string
		want  []api.Alarm
	}{
		{"rr", nil},
		{"rr rr gr gr ar rr", nil},
		{"rr rr gr", []api.Alarm{al(3, 3, 0, -1), al(6, 3, 0, -1)}},
		{"rr rr gr gr", []api.Alarm{al(3, 4, 0, -1)}},
		{"rr rr gr gr ar", nil},
		{"rr rr rr rl", []api.Alarm{al(3, 4, 1, -1), al(5, 4, 1, -1)}},
		{"rr rr rr rl rl", []api.Alarm{al(3, 5, 1, -1)}},
	} {
		checkTrace(t, x, append(texts(c.first), second...), c.want)
	}
	x.Groups[0].Amber = 2
	checkTrace(t, x, texts("rr rr gr gr ar rr rr gr gr ar ar rr"), []api.Alarm{al(4, 5, 0, -1)})
}

// P15.9: monitors of the same tables that are fed by turns, with all other calls between, answer what each answers alone.
func TestApart(t *testing.T) {
	t.Parallel()
	r := rand.New(rand.NewSource(99))
	for range 600 {
		x := anyTables(r, 1+r.Intn(4))
		traces := [][]string{anyTrace(t, r, x, 40), anyTrace(t, r, x, 40), safeTrace(t, r, x, 40)}
		var alone [][]api.Alarm
		var list []*watch.Monitor
		for _, trace := range traces {
			alone = append(alone, fed(begun(t, x), trace))
			list = append(list, begun(t, x))
		}
		for i := range 40 {
			for k, m := range list {
				if i >= len(traces[k]) {
					continue
				}
				if a := m.Feed(traces[k][i]); a != alone[k][i] {
					t.Fatalf("tick %d: %v, alone %v of %s", i, a, alone[k][i], told(x, traces[k]))
				}
				other := pick(r, list...)
				tripped, log := other.Tripped(), other.Log()
				if other.Tripped() != tripped || !slices.Equal(other.Log(), log) {
					t.Fatalf("Tripped or Log changed something: %v, %v", tripped, log)
				}
				if i%13 == 0 {
					watch.Audit(x, traces[(k+1)%3])
					watch.Judge(x, traces[(k+1)%3])
					watch.Lamps(traces[k][i], true, i)
					begun(t, x).Feed("?")
				}
			}
		}
	}
}
