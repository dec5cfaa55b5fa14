package watch_test

import (
	"fmt"
	"slices"
	"strings"
	"testing"

	"junction/api"
)

// examples are the chapter's, with all of their alarms.
var examples = []struct {
	tables api.Tables
	trace  string
	want   []api.Alarm
}{
	{two(), "", nil},
	{two(), "rr", nil},
	{two(), "rr rr gr gr ar rr rr rg", nil},
	{two(), "rr gr", []api.Alarm{al(2, 1, 1, 0)}},
	{two(), "gr", []api.Alarm{al(2, 0, 0, -1)}},
	{two(), "rr rr gr ar", []api.Alarm{al(6, 3, 0, -1)}},
	{two(), "rr rr gr gr rr", []api.Alarm{al(3, 4, 0, -1)}},
	{two(), "rr rr gr gr ar ar", []api.Alarm{al(4, 5, 0, -1)}},
	{two(), "rr rr gr gr ar rg", []api.Alarm{al(8, 5, 0, 1)}},
	{two(), "rr rr gr gg", []api.Alarm{al(7, 3, 0, 1), al(8, 3, 0, 1)}},
	{two(), "rr r", []api.Alarm{al(1, 1, -1, -1)}},
	{two(), "rr rR gg", []api.Alarm{al(1, 1, 1, -1)}},
	{lone(2, 0, 0), "a", []api.Alarm{al(2, 0, 0, -1), al(4, 0, 0, -1)}},
	{lone(2, 0, 0), "r g a", []api.Alarm{al(3, 2, 0, -1), al(4, 2, 0, -1), al(6, 2, 0, -1)}},
}

// P15.1, P15.2, P15.10: the chapter's examples.
func TestExamples(t *testing.T) {
	for _, c := range examples {
		checkTrace(t, c.tables, texts(c.trace), c.want)
	}
}

// AlForm: what is not formed, whatever else is wrong at that tick; nothing behind it is looked at.
func TestForm(t *testing.T) {
	x := two()
	for _, c := range []struct {
		text string
		a    int
	}{
		{"", -1}, {"r", -1}, {"rrr", -1}, {"rrrr", -1}, {"é", 0}, {"ér", -1}, {"XXX", -1}, {"X", -1}, {"gggggggg", -1},
		{"Rr", 0}, {"rR", 1}, {"XX", 0}, {"r.", 1}, {".r", 0}, {"r\x00", 1}, {"\x00\x00", 0}, {"r\xff", 1}, {"r ", 1}, {" r", 0}, {"r\n", 1}, {"g?", 1}, {"bg", 0}, {"mk", 0}, {"fh", 0}, {"qs", 0}, {"02", 0}, {"L\x03", 0}, {"rG", 1}, {"rA", 1}, {"\xf2r", 0}, {"r\xe7", 1},
	} {
		want := api.Alarm{Kind: api.AlForm, A: c.a, B: -1}
		checkTrace(t, x, []string{c.text}, []api.Alarm{want})
		checkTrace(t, x, []string{c.text, "gg", "rr", c.text}, []api.Alarm{want})
		want.Tick = 3
		checkTrace(t, x, []string{"rr", "rr", "gr", c.text, "gg", "", "rr"}, []api.Alarm{want})
		// What is wrong ahead of it is told.
		want.Tick = 2
		checkTrace(t, x, []string{"gg", "gg", c.text, "ll"}, []api.Alarm{al(2, 0, 0, -1), al(2, 0, 1, -1), al(7, 0, 0, 1), want})
	}
	for b := range 256 {
		if !strings.Contains("rlga", string([]byte{byte(b)})) {
			checkTrace(t, x, []string{"rr", string([]byte{'r', byte(b)})}, []api.Alarm{al(1, 1, 1, -1)})
		}
	}
	// No groups: the empty text alone is formed.
	checkTrace(t, api.Tables{}, []string{"", "", ""}, nil)
	checkTrace(t, api.Tables{Groups: []api.Group{}, Conflicts: []api.Conflict{}}, []string{"", "r", ""}, []api.Alarm{al(1, 1, -1, -1)})
	// The last of 64 groups.
	reds := strings.Repeat("r", 63)
	checkTrace(t, free(64), []string{reds + "r", reds + "x"}, []api.Alarm{al(1, 1, 63, -1)})
	checkTrace(t, free(64), []string{reds + "rr"}, []api.Alarm{al(1, 0, -1, -1)})
	checkTrace(t, free(64), []string{reds}, []api.Alarm{al(1, 0, -1, -1)})
}

// AlStart at tick 0: each group that is not red, whatever it shows and whatever its times are.
func TestStartAtZero(t *testing.T) {
	x := api.Tables{Groups: slices.Repeat([]api.Group{{Sort: 1, Min: 9, Amber: 3, Lead: 3}}, 4)}
	checkTrace(t, x, texts("rlga"), []api.Alarm{al(2, 0, 1, -1), al(2, 0, 2, -1), al(2, 0, 3, -1)})
	checkTrace(t, x, texts("rrrr"), nil)
	// It is told but once, and no intergreen is asked for at tick 0.
	y := two()
	y.Groups[0].Amber, y.Groups[0].Lead = 3, 3
	for _, letter := range []string{"l", "g", "a"} {
		checkTrace(t, y, []string{letter + "r", letter + "r"}, []api.Alarm{al(2, 0, 0, -1)})
	}
}

// AlStart behind tick 0: an intergreen just kept and one tick short, from a group that has not been green; by each letter with which red is left.
func TestStartLater(t *testing.T) {
	for _, inter := range [][2]int{{0, 0}, {1, 0}, {0, 1}, {2, 1}, {1, 5}, {6, 6}, {60, 59}, {3600, 3599}} {
		x := free(2)
		x.Conflicts[0].AB, x.Conflicts[0].BA = inter[0], inter[1]
		for ticks := range max(inter[0], inter[1]) + 3 {
			if ticks == 0 || ticks > 8 && min(distance(ticks, inter[0]), distance(ticks, inter[1])) > 2 {
				continue
			}
			trace := slices.Repeat([]string{"rr"}, ticks)
			var late, soon []api.Alarm
			if ticks < inter[0] {
				late = []api.Alarm{al(2, ticks, 0, 1)}
			}
			if ticks < inter[1] {
				soon = []api.Alarm{al(2, ticks, 1, 0)}
			}
			checkTrace(t, x, append(slices.Clone(trace), "rg", "rg"), late)
			checkTrace(t, x, append(slices.Clone(trace), "gr", "gr"), soon)
			// Both at once: neither has been green ahead of that tick.
			checkTrace(t, x, append(slices.Clone(trace), "gg"), append(append(late, soon...), al(7, ticks, 0, 1)))
		}
	}
	x := two()
	x.Groups[1].Lead = 1
	checkTrace(t, x, texts("rr rr rl rg"), []api.Alarm{al(2, 2, 0, 1)})
	checkTrace(t, x, texts("rr rr ra"), []api.Alarm{al(2, 2, 0, 1), al(3, 2, 1, -1)})
	checkTrace(t, x, texts("rr rr rg"), []api.Alarm{al(2, 2, 0, 1), al(3, 2, 1, -1)})
	checkTrace(t, x, texts("rr rr rr rl rg"), nil)
	// A foe that has shown all but green has not been green.
	y := free(2)
	y.Groups[0].Lead, y.Groups[0].Amber, y.Conflicts[0].AB = 1, 1, 9
	checkTrace(t, y, columns("rlar", "rrrg"), []api.Alarm{al(3, 2, 0, -1), al(2, 3, 0, 1)})
	// One that is not in conflict may do what it likes.
	z := api.Tables{Groups: free(3).Groups, Conflicts: []api.Conflict{{A: 0, B: 2, AB: 5, BA: 5}}}
	checkTrace(t, z, texts("rrr rgr"), nil)
	checkTrace(t, z, texts("rrr rrg"), []api.Alarm{al(2, 1, 0, 2)})
	checkTrace(t, z, texts("rrr grr"), []api.Alarm{al(2, 1, 2, 0)})
}

func distance(a, b int) int { return max(a-b, b-a) }

// AlStep: each two letters in a row, with and without a lead and an amber.
func TestStep(t *testing.T) {
	for _, c := range []struct {
		amber, lead int
		may         string
	}{
		{0, 0, "rr rg ll lg gg gr aa ar"},
		{0, 1, "rr rl ll lg gg gr aa ar"},
		{1, 0, "rr rg ll lg gg ga aa ar"},
		{1, 1, "rr rl ll lg gg ga aa ar"},
		{60, 60, "rr rl ll lg gg ga aa ar"},
	} {
		for _, p := range "rlga" {
			for _, x := range "rlga" {
				var steps []api.Alarm
				for _, a := range audit(t, lone(1, c.amber, c.lead), []string{"r", string(p), string(x)}) {
					if a.Kind == api.AlStep && a.Tick == 2 {
						steps = append(steps, a)
					}
				}
				var want []api.Alarm
				if pair := string(p) + string(x); !strings.Contains(c.may, pair) {
					want = []api.Alarm{al(3, 2, 0, -1)}
				}
				if !slices.Equal(steps, want) {
					t.Errorf("%c behind %c, amber %d, lead %d: %v, want %v", x, p, c.amber, c.lead, steps, want)
				}
			}
		}
	}
	// There is none at tick 0, and it is told of each group.
	checkTrace(t, free(3), texts("rrr rrr rrr"), nil)
	x := api.Tables{Groups: free(3).Groups}
	checkTrace(t, x, texts("rrr lrl"), []api.Alarm{al(3, 1, 0, -1), al(3, 1, 2, -1), al(5, 1, 0, -1), al(5, 1, 2, -1)})
}

// AlAmber, AlLead, AlMin: a stretch of just so many ticks, of one less and of one more; what goes on at the end may be shorter.
func TestStretches(t *testing.T) {
	for _, long := range []int{1, 2, 3, 59, 60} {
		x := lone(1, long, long)
		for n := 1; n <= long+3; n++ {
			if n > 5 && n < long-2 {
				continue
			}
			for _, part := range []struct {
				ahead, letter, behind string
				kind                  int
			}{
				{"rr" + strings.Repeat("l", long) + "gg", "a", "r", api.AlAmber},
				{"rr", "l", "g", api.AlLead},
			} {
				open := part.ahead + strings.Repeat(part.letter, n)
				first := len(part.ahead)
				var over, short []api.Alarm
				if n > long {
					over = []api.Alarm{al(part.kind, first+long, 0, -1)}
				}
				if n < long {
					short = []api.Alarm{al(part.kind, first+n, 0, -1)}
				}
				checkTrace(t, x, strings.Split(open, ""), over)
				checkTrace(t, x, strings.Split(open+part.behind, ""), append(over, short...))
			}
		}
	}
	for _, long := range []int{1, 2, 3, 3599, 3600} {
		x := lone(long, 1, 0)
		for _, n := range []int{1, 2, 3, long - 1, long, long + 1, long + 500} {
			if n < 1 {
				continue
			}
			trace := strings.Split("r"+strings.Repeat("g", n), "")
			checkTrace(t, x, trace, nil)
			var want []api.Alarm
			if n < long {
				want = []api.Alarm{al(6, n+1, 0, -1)}
			}
			checkTrace(t, x, append(trace, "a", "r"), want)
		}
	}
}

// Stretches that end in a letter that may not come, that begin at tick 0, or of a letter that a group does not have.
func TestStretchesThatMayNotBe(t *testing.T) {
	for _, c := range []struct {
		amber, lead, min int
		trace            string
		want             []api.Alarm
	}{
		// Too short, whatever comes behind.
		{3, 0, 1, "rgaag", []api.Alarm{al(3, 4, 0, -1), al(4, 4, 0, -1)}},
		{3, 3, 1, "rlllgaal", []api.Alarm{al(3, 7, 0, -1), al(4, 7, 0, -1)}},
		{3, 3, 1, "rlla", []api.Alarm{al(3, 3, 0, -1), al(5, 3, 0, -1)}},
		{3, 3, 1, "rllr", []api.Alarm{al(3, 3, 0, -1), al(5, 3, 0, -1)}},
		{1, 1, 3, "rlggr", []api.Alarm{al(3, 4, 0, -1), al(6, 4, 0, -1)}},
		{1, 1, 3, "rlggl", []api.Alarm{al(3, 4, 0, -1), al(6, 4, 0, -1)}},
		{1, 1, 3, "rlgggl", []api.Alarm{al(3, 5, 0, -1)}},
		// Each stretch is counted anew.
		{2, 0, 2, "rggaarggaarggaar", nil},
		{2, 0, 2, "rggarggar", []api.Alarm{al(4, 4, 0, -1), al(4, 8, 0, -1)}},
		{2, 0, 2, "rggaaarggaaar", []api.Alarm{al(4, 5, 0, -1), al(4, 11, 0, -1)}},
		{2, 0, 2, "rgaargaar", []api.Alarm{al(6, 2, 0, -1), al(6, 6, 0, -1)}},
		{0, 2, 1, "rllgrlgrlllg", []api.Alarm{al(5, 6, 0, -1), al(5, 10, 0, -1)}},
		// One that is far too long is told but once.
		{2, 0, 1, "rgaaaaaaa", []api.Alarm{al(4, 4, 0, -1)}},
		{0, 2, 1, "rlllllllg", []api.Alarm{al(5, 3, 0, -1)}},
		// From tick 0 on.
		{2, 0, 1, "aar", []api.Alarm{al(2, 0, 0, -1)}},
		{2, 0, 1, "ar", []api.Alarm{al(2, 0, 0, -1), al(4, 1, 0, -1)}},
		{2, 0, 1, "aaar", []api.Alarm{al(2, 0, 0, -1), al(4, 2, 0, -1)}},
		{0, 2, 1, "llg", []api.Alarm{al(2, 0, 0, -1)}},
		{0, 2, 1, "lg", []api.Alarm{al(2, 0, 0, -1), al(5, 1, 0, -1)}},
		{0, 2, 1, "lllg", []api.Alarm{al(2, 0, 0, -1), al(5, 2, 0, -1)}},
		{1, 0, 3, "ggga", []api.Alarm{al(2, 0, 0, -1)}},
		{1, 0, 3, "gga", []api.Alarm{al(2, 0, 0, -1), al(6, 2, 0, -1)}},
		// A letter that the group does not have: its first tick is one too many, its end is none.
		{0, 0, 1, "l", []api.Alarm{al(2, 0, 0, -1), al(5, 0, 0, -1)}},
		{0, 0, 1, "aa", []api.Alarm{al(2, 0, 0, -1), al(4, 0, 0, -1)}},
		{0, 0, 1, "rllg", []api.Alarm{al(3, 1, 0, -1), al(5, 1, 0, -1)}},
		{0, 0, 1, "rgaar", []api.Alarm{al(3, 2, 0, -1), al(4, 2, 0, -1)}},
		// Reds and greens may be as long as they like.
		{1, 1, 1, "rrrrrrrrrrrrlggggggggggggarrrrrrrrrrlgar", nil},
	} {
		checkTrace(t, lone(c.min, c.amber, c.lead), strings.Split(c.trace, ""), c.want)
	}
}

// AlClash: told when it begins, at tick 0 too, and again when it begins again; of groups in conflict alone.
func TestClash(t *testing.T) {
	x := free(2)
	x.Groups[0].Amber, x.Groups[0].Lead = 1, 1
	for _, c := range []struct {
		a, b string
		want []int // the ticks of clashes
	}{
		{"rrr", "rgg", nil},
		{"rlg", "rrr", nil},
		{"rlg", "rgg", []int{1}},
		{"rlga", "rrrg", []int{3}},
		{"rlgar", "rrrrg", nil},
		{"rlgarl", "rrgggg", []int{2, 5}},
		{"rlgar", "rrgrr", []int{2}},
		{"rlggar", "rrgrgr", []int{2, 4}},
		{"rlggggg", "rgrgrgr", []int{1, 3, 5}},
		{"gg", "gg", []int{0}},
		{"ll", "aa", []int{0}},
		{"gr", "gr", []int{0}},
		{"grg", "gggg", []int{0, 2}},
		{"rg", "gg", []int{1}},
	} {
		var ticks []int
		for _, a := range audit(t, x, columns(c.a, c.b)) {
			if a.Kind == api.AlClash {
				ticks = append(ticks, a.Tick)
				if a.A != 0 || a.B != 1 {
					t.Errorf("%s and %s: %v", c.a, c.b, a)
				}
			}
		}
		if !slices.Equal(ticks, c.want) {
			t.Errorf("%s and %s: at %v, want %v", c.a, c.b, ticks, c.want)
		}
	}
	y := api.Tables{Groups: free(4).Groups, Conflicts: []api.Conflict{{A: 0, B: 3}, {A: 1, B: 2}}}
	checkTrace(t, y, texts("rrrr grgr"), nil)
	checkTrace(t, y, texts("rrrr ggrr"), nil)
	checkTrace(t, y, texts("rrrr grrg"), []api.Alarm{al(7, 1, 0, 3)})
	checkTrace(t, y, texts("rrrr gggg gggg"), []api.Alarm{al(7, 1, 0, 3), al(7, 1, 1, 2)})
}

// AlInter: an intergreen just kept and one tick short behind a green, both ways.
func TestInter(t *testing.T) {
	for _, inter := range []int{0, 1, 2, 5, 3600} {
		for _, wait := range []int{0, 1, 2, 3, 4, 5, 6, 3598, 3599, 3600, 3601} {
			if wait > inter+2 {
				continue
			}
			x := free(2)
			ahead, behind := strings.Repeat("r", inter+1), strings.Repeat("r", wait)
			foe, own := ahead+"ggg"+behind+"r", ahead+"rrr"+behind+"g"
			var late, soon []api.Alarm
			if wait < inter {
				late = []api.Alarm{al(8, len(ahead+behind)+3, 0, 1)}
				soon = []api.Alarm{al(8, len(ahead+behind)+3, 1, 0)}
			}
			// The intergreen counts from the foe to the group, never the other way.
			x.Conflicts[0].AB, x.Conflicts[0].BA = inter, 0
			checkTrace(t, x, columns(foe, own), late)
			checkTrace(t, x, columns(own, foe), nil)
			x.Conflicts[0].AB, x.Conflicts[0].BA = 0, inter
			checkTrace(t, x, columns(own, foe), soon)
			checkTrace(t, x, columns(foe, own), nil)
		}
	}
}

// AlInter: what counts is the last green ahead of the tick, however it ended, and each time that red is left.
func TestInterFromTheLastGreen(t *testing.T) {
	x := free(2)
	x.Groups[0].Amber, x.Conflicts[0].AB = 2, 3
	for _, c := range []struct {
		a, b string
		want []api.Alarm
	}{
		// The amber is a part of it.
		{"rrrgaarr", "rrrrrrrg", nil},
		{"rrrgaar", "rrrrrrg", []api.Alarm{al(8, 6, 0, 1)}},
		// A second green begins it anew.
		{"rrrgaargaarr", "rrrrrrrrrrrg", nil},
		{"rrrgaargaar", "rrrrrrrrrrg", []api.Alarm{al(8, 10, 0, 1)}},
		// A green of many ticks: from its last one on.
		{"rrrggggggaarr", "rrrrrrrrrrrrg", nil},
		{"rrrggggggaar", "rrrrrrrrrrrg", []api.Alarm{al(8, 11, 0, 1)}},
		// The foe is green at this very tick: what counts is its green ahead of it, or that it had none.
		{"rrrgg", "rrrrg", []api.Alarm{al(7, 4, 0, 1), al(8, 4, 0, 1)}},
		{"rrrg", "rrrg", []api.Alarm{al(7, 3, 0, 1)}},
		{"rrg", "rrg", []api.Alarm{al(2, 2, 0, 1), al(7, 2, 0, 1)}},
		{"rrrgaarrrg", "rrrrrrrrrg", []api.Alarm{al(7, 9, 0, 1)}},
		{"rrrgaarg", "rrrrrrrg", []api.Alarm{al(7, 7, 0, 1)}},
		{"rrrgaag", "rrrrrrg", []api.Alarm{al(3, 6, 0, -1), al(7, 6, 0, 1), al(8, 6, 0, 1)}},
		// A green at tick 0 is one.
		{"gaar", "rrrg", []api.Alarm{al(2, 0, 0, -1), al(8, 3, 0, 1)}},
		{"gaarr", "rrrrg", []api.Alarm{al(2, 0, 0, -1)}},
		// It is told each time that red is left, and no other time.
		{"rrrgaarr", "rrrrggrg", []api.Alarm{al(7, 4, 0, 1), al(8, 4, 0, 1)}},
		{"rrrgaarr", "rrrrgrgr", []api.Alarm{al(7, 4, 0, 1), al(8, 4, 0, 1), al(8, 6, 0, 1)}},
		// One that was away already leaves no red.
		{"rrrgaarr", "rrgggggg", []api.Alarm{al(2, 2, 0, 1), al(7, 3, 0, 1)}},
		{"rrgaarrr", "gggggggg", []api.Alarm{al(2, 0, 1, -1), al(7, 2, 0, 1)}},
	} {
		checkTrace(t, x, columns(c.a, c.b), c.want)
	}
	// Red is left with a lead or an amber too.
	y := two()
	y.Groups[1].Lead = 1
	checkTrace(t, y, texts("rr rr gr gr ar rl rg"), []api.Alarm{al(8, 5, 0, 1)})
	checkTrace(t, y, texts("rr rr gr gr ar rr rr rl rg"), nil)
	checkTrace(t, y, texts("rr rr gr gr ar ra"), []api.Alarm{al(3, 5, 1, -1), al(8, 5, 0, 1)})
	// Each foe by itself.
	z := api.Tables{Groups: free(3).Groups, Conflicts: []api.Conflict{{A: 0, B: 1, AB: 2, BA: 2}, {A: 0, B: 2, AB: 4, BA: 4}}}
	checkTrace(t, z, texts("rrr rrr rrr rrr grr rrr rgg"), []api.Alarm{al(8, 6, 0, 1), al(8, 6, 0, 2)})
	checkTrace(t, z, texts("rrr rrr rrr rrr grr rrr rrr rgg"), []api.Alarm{al(8, 7, 0, 2)})
	checkTrace(t, z, texts("rrr rrr rrr rrr grr rrr rrr rgr rrr rrg"), nil)
	checkTrace(t, z, texts("rrr rrr rrr rrr rgg rrr grr"), []api.Alarm{al(8, 6, 1, 0), al(8, 6, 2, 0)})
	checkTrace(t, z, texts("rrr rrr rrr rrr rgr grr"), []api.Alarm{al(8, 5, 1, 0)})
}

// P15.1: the order: by the tick, then by the kind, then by A, then by B.
func TestOrder(t *testing.T) {
	x := api.Tables{
		Groups: []api.Group{
			{Sort: 1, Min: 3, Amber: 2, Lead: 2}, {Sort: 2, Min: 1}, {Sort: 1, Min: 2, Amber: 1, Lead: 1},
		},
		Conflicts: []api.Conflict{{A: 0, B: 1, AB: 5, BA: 4}, {A: 0, B: 2, AB: 3, BA: 9}, {A: 1, B: 2, AB: 6, BA: 6}},
	}
	checkTrace(t, x, texts("lar ggg rla grr x ggg"), []api.Alarm{
		al(2, 0, 0, -1), al(2, 0, 1, -1), al(4, 0, 1, -1), al(7, 0, 0, 1),
		al(2, 1, 0, 2), al(2, 1, 1, 2), al(3, 1, 1, -1), al(3, 1, 2, -1), al(5, 1, 0, -1), al(7, 1, 0, 2), al(7, 1, 1, 2),
		al(3, 2, 0, -1), al(3, 2, 1, -1), al(5, 2, 1, -1), al(6, 2, 0, -1), al(6, 2, 2, -1),
		al(3, 3, 0, -1), al(3, 3, 1, -1), al(8, 3, 1, 0), al(8, 3, 2, 0),
		al(1, 4, -1, -1),
	})
}

// P15.1: all that 64 groups can be wrong in at once.
func TestMany(t *testing.T) {
	x := free(64)
	for i := range x.Conflicts {
		x.Conflicts[i].AB, x.Conflicts[i].BA = 3600, 3600
	}
	reds, greens := strings.Repeat("r", 64), strings.Repeat("g", 64)
	var want []api.Alarm
	for _, tick := range []int{1, 3} {
		for a := range 64 {
			for b := range 64 {
				if a != b && tick == 1 {
					want = append(want, al(2, tick, a, b))
				}
			}
		}
		for a := range 64 {
			for b := a + 1; b < 64; b++ {
				want = append(want, al(7, tick, a, b))
			}
		}
		for a := range 64 {
			for b := range 64 {
				if a != b && tick == 3 {
					want = append(want, al(8, tick, a, b))
				}
			}
		}
	}
	if len(want) != 12096 {
		t.Fatal(len(want))
	}
	checkTrace(t, x, []string{reds, greens, reds, greens}, want)
}

// The greatest numbers there are, in a trace that is safe and in two that are so but for one tick.
func TestGreatest(t *testing.T) {
	x := two()
	x.Groups[0] = api.Group{Sort: 1, Min: 3600, Amber: 60, Lead: 60}
	x.Conflicts[0].AB, x.Conflicts[0].BA = 3600, 3600
	parts := func(counts ...int) []string {
		var trace []string
		for i, n := range counts {
			trace = append(trace, slices.Repeat([]string{[]string{"rr", "lr", "gr", "ar", "rr", "rg"}[i]}, n)...)
		}
		return trace
	}
	checkTrace(t, x, parts(3600, 60, 3600, 60, 3540, 9), nil)
	for i, want := range []api.Alarm{al(2, 3599, 1, 0), al(5, 3659, 0, -1), al(6, 7259, 0, -1), al(4, 7319, 0, -1), al(8, 10859, 0, 1)} {
		counts := []int{3600, 60, 3600, 60, 3540, 9}
		counts[i]--
		if i == 3 {
			counts[4]++ // so that the intergreen is kept
		}
		checkTrace(t, x, parts(counts...), []api.Alarm{want})
		if fmt.Sprint(modelAudit(x, parts(counts...))) != fmt.Sprint([]api.Alarm{want}) {
			t.Errorf("%d: the second way tells otherwise", i)
		}
	}
}
