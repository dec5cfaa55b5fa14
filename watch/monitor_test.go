package watch_test

import (
	"math"
	"math/rand"
	"slices"
	"strings"
	"testing"

	"junction/api"
	"junction/watch"
)

// checkMonitor holds what a monitor tells of itself against what is due.
func checkMonitor(t *testing.T, what string, m *watch.Monitor, tripped api.Alarm, log ...api.Alarm) {
	t.Helper()
	if m.Tripped() != tripped || !slices.Equal(m.Log(), log) {
		t.Errorf("%s: tripped %v, log %v, want %v and %v", what, m.Tripped(), m.Log(), tripped, log)
	}
}

// checkQuiet feeds what is safe.
func checkQuiet(t *testing.T, what string, m *watch.Monitor, trace string) {
	t.Helper()
	for i, a := range fed(m, texts(trace)) {
		if a != (api.Alarm{}) {
			t.Errorf("%s: text %d of %q: %v", what, i, trace, a)
		}
	}
}

// checkFed feeds a text at which the monitor has to answer that.
func checkFed(t *testing.T, what string, m *watch.Monitor, text string, want api.Alarm) {
	t.Helper()
	if a := m.Feed(text); a != want {
		t.Errorf("%s: %v, want %v", what, a, want)
	}
}

// P15.3: a monitor ahead of tick 0, not tripped, with an empty log.
func TestNew(t *testing.T) {
	zero := api.Alarm{}
	for _, x := range []api.Tables{{}, {Groups: []api.Group{}, Conflicts: []api.Conflict{}}, lone(1, 0, 0), two(), free(64)} {
		reds := strings.Repeat("r", len(x.Groups))
		m := begun(t, x)
		checkMonitor(t, "new", m, zero)
		checkFed(t, "tick 0", m, reds, zero)
		checkFed(t, "tick 1", m, reds, zero)
		m = begun(t, x)
		if len(x.Groups) > 0 {
			checkFed(t, "tick 0", m, "g"+reds[1:], al(2, 0, 0, -1))
		}
	}
}

// P15.3: what happens to the tables afterwards is not seen, be it in what they have or in what they lack.
func TestTablesAfterwards(t *testing.T) {
	trace := texts("rr rr gr gr ar rr rr rg rg ra rr gr")
	for i, change := range []func(x *api.Tables){
		func(x *api.Tables) { x.Groups[0].Min = 99 },
		func(x *api.Tables) { x.Groups[1].Min = 99 },
		func(x *api.Tables) { x.Groups[0].Amber = 0 },
		func(x *api.Tables) { x.Groups[1].Amber = 2 },
		func(x *api.Tables) { x.Groups[0].Lead = 1 },
		func(x *api.Tables) { x.Groups[1].Lead = 1 },
		func(x *api.Tables) { x.Groups[0] = api.Group{} },
		func(x *api.Tables) { x.Conflicts[0].AB = 4 },
		func(x *api.Tables) { x.Conflicts[0].BA = 3 },
		func(x *api.Tables) { x.Conflicts[0] = api.Conflict{A: -1, B: 1 << 40, AB: 3, BA: 2} },
		func(x *api.Tables) { x.Conflicts[0].A, x.Conflicts[0].B = 1, 0 },
	} {
		x := two()
		m := begun(t, x)
		change(&x)
		for tick, a := range fed(m, trace) {
			if a != (api.Alarm{}) {
				t.Errorf("change %d is seen at tick %d: %v", i, tick, a)
			}
		}
		// Nor in the midst of a trace, nor behind a reset.
		x = two()
		m = begun(t, x)
		fed(m, trace[:3])
		change(&x)
		checkFed(t, "a clash", m, "gg", al(7, 3, 0, 1))
		m.Reset()
		for tick, a := range fed(m, trace) {
			if a != (api.Alarm{}) {
				t.Errorf("change %d is seen behind a reset, at tick %d: %v", i, tick, a)
			}
		}
	}
	// Looser tables afterwards let nothing pass.
	x := two()
	m := begun(t, x)
	x.Groups[0].Min, x.Conflicts[0].AB, x.Conflicts[0].BA = 1, 0, 0
	checkFed(t, "tick 0", m, "rr", api.Alarm{})
	checkFed(t, "an intergreen", m, "gr", al(2, 1, 1, 0))
}

// P15.4, P15.5: it trips at the first alarm of a tick in the order, and looks at nothing from then on.
func TestTrips(t *testing.T) {
	zero := api.Alarm{}
	for _, c := range []struct {
		ahead, text string
		want        api.Alarm
	}{
		{"", "gg", al(2, 0, 0, -1)},
		{"", "rg", al(2, 0, 1, -1)},
		{"", "", al(1, 0, -1, -1)},
		{"", "gx", al(1, 0, 1, -1)},
		{"rr rr gr", "gg", al(7, 3, 0, 1)},
		{"rr rr gr", "ra", al(3, 3, 0, -1)},
		{"rr rr gr", "rg", al(3, 3, 0, -1)},
		{"rr rr gr", "ag", al(6, 3, 0, -1)},
		{"rr rr gr gr ar", "rg", al(8, 5, 0, 1)},
		{"rr rr gr gr ar", "al", al(3, 5, 1, -1)},
		{"rr rr gr gr ar", "ag", al(4, 5, 0, -1)},
		{"rr rr gr gr", "gggg", al(1, 4, -1, -1)},
		{"rr", "gg", al(2, 1, 0, 1)},
	} {
		m := begun(t, two())
		checkQuiet(t, c.text, m, c.ahead)
		checkMonitor(t, c.text, m, zero)
		checkFed(t, c.text, m, c.text, c.want)
		checkMonitor(t, c.text, m, c.want, c.want)
		for _, text := range []string{"rr", "gg", "", "??", c.text, "rr", "gr", strings.Repeat("g", 999)} {
			checkFed(t, "tripped", m, text, zero)
			checkMonitor(t, "tripped", m, c.want, c.want)
		}
		// What a tripped monitor is fed is not seen behind the reset either.
		if !m.Reset() {
			t.Errorf("%q: no reset", c.text)
		}
		checkMonitor(t, c.text, m, zero, c.want)
		checkQuiet(t, c.text, m, "rr rr gr gr ar rr rr rg")
	}
}

// P15.4: behind a text that is formed and safe all that came before counts: stretches, greens, ticks.
func TestFeedKeeps(t *testing.T) {
	x := lone(3, 2, 2)
	for _, c := range []struct {
		ahead, text string
		want        api.Alarm
	}{
		{"r l", "g", al(5, 2, 0, -1)},
		{"r l l", "l", al(5, 3, 0, -1)},
		{"r l l g g", "a", al(6, 5, 0, -1)},
		{"r l l g g g", "a", api.Alarm{}},
		{"r l l g g g a", "r", al(4, 7, 0, -1)},
		{"r l l g g g a a", "r", api.Alarm{}},
		{"r l l g g g a a", "a", al(4, 8, 0, -1)},
		{"r l l g g g a a r l l g g", "a", al(6, 13, 0, -1)},
	} {
		m := begun(t, x)
		checkQuiet(t, c.ahead, m, c.ahead)
		checkFed(t, c.ahead+" "+c.text, m, c.text, c.want)
	}
}

// P15.6: all alarms since New, the oldest first, equal ones too; their ticks are counted from New or the last reset.
func TestLog(t *testing.T) {
	m := begun(t, two())
	var want []api.Alarm
	for _, c := range []struct {
		trace string
		alarm api.Alarm
	}{
		{"rr rr gr gg", al(7, 3, 0, 1)},
		{"gr", al(2, 0, 0, -1)},
		{"gr", al(2, 0, 0, -1)},
		{"rr r", al(1, 1, -1, -1)},
		{"rr rr gr gr ar rg", al(8, 5, 0, 1)},
		{"rr gr", al(2, 1, 1, 0)},
		{"rr rr gr gg", al(7, 3, 0, 1)},
	} {
		list := fed(m, texts(c.trace))
		want = append(want, c.alarm)
		if list[len(list)-1] != c.alarm {
			t.Errorf("%q: %v, want %v", c.trace, list, c.alarm)
		}
		checkMonitor(t, c.trace, m, c.alarm, want...)
		if !m.Reset() {
			t.Errorf("%q: no reset", c.trace)
		}
		checkMonitor(t, c.trace, m, api.Alarm{}, want...)
	}
	for range 1000 {
		m.Feed("gr")
		want = append(want, al(2, 0, 0, -1))
		m.Reset()
	}
	checkMonitor(t, "many", m, api.Alarm{}, want...)
}

// P15.6: a log that was told is nobody's: neither what is written into it, its spare room too, nor what comes later is seen on the other side.
func TestLogIsNew(t *testing.T) {
	m := begun(t, two())
	var told [][]api.Alarm
	var want []api.Alarm
	for range 40 {
		m.Feed("gr")
		m.Reset()
		want = append(want, al(2, 0, 0, -1))
		told = append(told, m.Log())
		list := m.Log()
		list = list[:cap(list)]
		for i := range list {
			list[i] = al(9, 9, 9, 9)
		}
		_ = append(m.Log(), al(8, 8, 8, 8))
	}
	checkMonitor(t, "written into", m, api.Alarm{}, want...)
	for i, list := range told {
		if !slices.Equal(list, want[:i+1]) {
			t.Errorf("a log of %d alarms became %v", i+1, list)
		}
	}
}

// P15.7: a reset begins anew ahead of a tick 0, with nothing of the texts before.
func TestReset(t *testing.T) {
	zero := api.Alarm{}
	for _, c := range []struct {
		before, behind string
		want           api.Alarm
	}{
		// Tick 0 again: all have to be red, and nothing has to follow what was shown.
		{"rr rr gr gr r", "gr", al(2, 0, 0, -1)},
		{"rr rr gr gr r", "ar", al(2, 0, 0, -1)},
		{"rr rr gr gr r", "rr", zero},
		// Intergreens are waited for anew, from tick -1 on.
		{"rr rr gr gr r", "rr rr rr rg", zero},
		{"rr rr gr gr r", "rr rr rg", al(2, 2, 0, 1)},
		{"rr rr rr rg x", "rr rr gr", zero},
		{"rr rr rr rg x", "rr gr", al(2, 1, 1, 0)},
		// Stretches are counted anew.
		{"rr rr gr x", "rr rr gr ar", al(6, 3, 0, -1)},
		{"rr rr gr gr ar ar", "rr rr gr gr ar rr", zero},
		{"rr rr gr gr ar ar", "rr rr gr gr ar ar", al(4, 5, 0, -1)},
		// A clash begins anew.
		{"rr rr gr gg", "gg", al(2, 0, 0, -1)},
		{"rr rr gr gg", "rr rr rr gg", al(7, 3, 0, 1)},
	} {
		m := begun(t, two())
		fed(m, texts(c.before))
		first := m.Tripped()
		if first == zero || !m.Reset() {
			t.Fatalf("%q: not tripped", c.before)
		}
		if m.Reset() {
			t.Errorf("%q: reset twice", c.before)
		}
		checkMonitor(t, c.before, m, zero, first)
		list := fed(m, texts(c.behind))
		if list[len(list)-1] != c.want {
			t.Errorf("%q behind %q: %v, want %v", c.behind, c.before, list, c.want)
		}
		log := []api.Alarm{first}
		if c.want != zero {
			log = append(log, c.want)
		}
		checkMonitor(t, c.behind, m, c.want, log...)
	}
}

// P15.7: a reset of one that is not tripped changes nothing: ticks, stretches and greens go on.
func TestResetOfNone(t *testing.T) {
	for _, c := range []struct {
		trace string
		want  api.Alarm
	}{
		{"rr rr gr gr ar rr rr rg", api.Alarm{}},
		{"rr rr gr ar", al(6, 3, 0, -1)},
		{"rr rr gr gr ar rg", al(8, 5, 0, 1)},
		{"rr rr gr gr ar ar", al(4, 5, 0, -1)},
		{"rr rr gr gr rr", al(3, 4, 0, -1)},
		{"rr rr rg", al(2, 2, 0, 1)},
		{"rr rr gr gg", al(7, 3, 0, 1)},
	} {
		m := begun(t, two())
		var last api.Alarm
		for _, text := range texts(c.trace) {
			if m.Reset() {
				t.Errorf("%q: a reset ahead of %q", c.trace, text)
			}
			checkMonitor(t, c.trace, m, api.Alarm{})
			last = m.Feed(text)
		}
		if last != c.want || m.Tripped() != c.want {
			t.Errorf("%q: %v, want %v", c.trace, last, c.want)
		}
	}
}

// P15.8: the heads, or red and dark by turns.
func TestLamps(t *testing.T) {
	for _, heads := range []string{"", "g", "gr", "rlga", "xyz", ".", "\x00\xff", "é", "r\nr", strings.Repeat("g", 64), strings.Repeat("a", 70000)} {
		for _, tick := range []int{0, 1, 2, 3, 4, 5, -1, -2, -3, -4, 65535, 65536, math.MaxInt, math.MaxInt - 1, math.MinInt, math.MinInt + 1} {
			want := strings.Repeat("r", len(heads))
			if tick&1 == 1 {
				want = strings.Repeat(".", len(heads))
			}
			if lamps := watch.Lamps(heads, true, tick); lamps != want {
				t.Errorf("%.20q, tripped, tick %d: %.20q, want %.20q", heads, tick, lamps, want)
			}
			if lamps := watch.Lamps(heads, false, tick); lamps != heads {
				t.Errorf("%.20q, tick %d: %.20q", heads, tick, lamps)
			}
		}
	}
}

// P15.3 to P15.7, P15.9: any calls on several monitors in any order, each held against the traces that it has been fed.
func TestMonitorsAtRandom(t *testing.T) {
	t.Parallel()
	r := rand.New(rand.NewSource(159))
	trips, resets := 0, 0
	for range 400 {
		list := make([]*keeper, 1+r.Intn(4))
		for i := range list {
			x := anyTables(r, r.Intn(5))
			list[i] = &keeper{x: x, m: begun(t, x)}
			list[i].plan(t, r)
		}
		for range 300 {
			k := pick(r, list...)
			switch r.Intn(8) {
			case 0:
				if k.m.Reset() != (k.tripped != api.Alarm{}) {
					t.Fatalf("Reset of a monitor that tripped at %v: %s", k.tripped, told(k.x, k.trace))
				}
				if k.tripped != (api.Alarm{}) {
					resets++
					k.trace, k.tripped = nil, api.Alarm{}
					k.plan(t, r)
				}
			case 1:
				if !slices.Equal(k.m.Log(), k.log) {
					t.Fatalf("Log: %v, want %v", k.m.Log(), k.log)
				}
			case 2:
				if k.m.Tripped() != k.tripped {
					t.Fatalf("Tripped: %v, want %v", k.m.Tripped(), k.tripped)
				}
			default:
				k.feed(t)
			}
		}
		for _, k := range list {
			checkMonitor(t, told(k.x, k.trace), k.m, k.tripped, k.log...)
			trips += len(k.log)
		}
	}
	if trips < 1500 || resets < 1000 {
		t.Errorf("only %d trips, %d resets", trips, resets)
	}
}

// keeper is a monitor, and all that it has been fed since it began anew.
type keeper struct {
	x       api.Tables
	m       *watch.Monitor
	coming  []string
	trace   []string
	tripped api.Alarm
	log     []api.Alarm
}

func (k *keeper) plan(t *testing.T, r *rand.Rand) { k.coming = anyTrace(t, r, k.x, 120) }

func (k *keeper) feed(t *testing.T) {
	t.Helper()
	if len(k.coming) == 0 {
		return
	}
	text := k.coming[0]
	k.coming = k.coming[1:]
	a := k.m.Feed(text)
	want := api.Alarm{}
	if k.tripped == want {
		k.trace = append(k.trace, text)
		if list := modelAudit(k.x, k.trace); len(list) > 0 {
			want = list[0]
			k.tripped = want
			k.log = append(k.log, want)
		}
	}
	if a != want {
		t.Fatalf("Feed: %v, want %v of %s", a, want, told(k.x, k.trace))
	}
}
