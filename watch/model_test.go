package watch_test

import (
	"strings"
	"testing"

	"junction/api"
)

// A second way to all answers: of each alarm that can be, in the order of telling, it is asked by the chapter's table whether it is raised. Nothing is counted on the way: all is looked for in the trace.

// modelAudit are all alarms of a trace over sound tables.
func modelAudit(x api.Tables, trace []string) []api.Alarm {
	var list []api.Alarm
	for i, text := range trace {
		if a, formed := modelForm(x, text); !formed {
			return append(list, api.Alarm{Kind: 1, Tick: i, A: a, B: -1})
		}
		for kind := 2; kind <= 8; kind++ {
			for a := range x.Groups {
				for b := -1; b < len(x.Groups); b++ {
					if b < 0 && ofGroup(x.Groups[a], trace, kind, i, a) || b >= 0 && ofPair(x, trace, kind, i, a, b) {
						list = append(list, api.Alarm{Kind: kind, Tick: i, A: a, B: b})
					}
				}
			}
		}
	}
	return list
}

// modelForm is the group of an AlForm, or that the text is formed.
func modelForm(x api.Tables, text string) (int, bool) {
	if len(text) != len(x.Groups) {
		return -1, false
	}
	rest := strings.TrimLeft(text, "rlga")
	return len(text) - len(rest), rest == ""
}

// stretch is for how many ticks in a row, up to that one, a group has shown the letter.
func stretch(trace []string, letter byte, tick, group int) int {
	n := 0
	for n <= tick && trace[tick-n][group] == letter {
		n++
	}
	return n
}

// follows are the letters in a row that may be, of a group with a lead and an amber and of such without.
func follows(g api.Group, p, x byte) bool {
	list := " rr ll lg gg aa ar"
	if g.Lead > 0 {
		list += " rl"
	} else {
		list += " rg"
	}
	if g.Amber > 0 {
		list += " ga"
	} else {
		list += " gr"
	}
	return strings.Contains(list, string([]byte{' ', p, x}))
}

// ofGroup tells whether a kind's alarm is raised of a group alone.
func ofGroup(g api.Group, trace []string, kind, i, a int) bool {
	x := trace[i][a]
	if i == 0 {
		return kind == 2 && x != 'r' || kind == 4 && x == 'a' && g.Amber == 0 || kind == 5 && x == 'l' && g.Lead == 0
	}
	p := trace[i-1][a]
	// ended is whether a stretch of the letter that is over was too short, begun whether one that is not has just become too long.
	ended := func(letter byte, least int) bool {
		return p == letter && x != letter && stretch(trace, letter, i-1, a) < least
	}
	begun := func(letter byte, most int) bool { return stretch(trace, letter, i, a) == most+1 }
	switch kind {
	case 3:
		return !follows(g, p, x)
	case 4:
		return ended('a', g.Amber) || begun('a', g.Amber)
	case 5:
		return ended('l', g.Lead) || begun('l', g.Lead)
	case 6:
		return ended('g', g.Min)
	}
	return false
}

// ofPair tells whether a kind's alarm is raised of two groups.
func ofPair(x api.Tables, trace []string, kind, i, a, b int) bool {
	inter := -1
	for _, c := range x.Conflicts {
		switch [2]int{a, b} {
		case [2]int{c.A, c.B}:
			inter = c.AB
		case [2]int{c.B, c.A}:
			inter = c.BA
		}
	}
	if inter < 0 {
		return false
	}
	both := func(tick int) bool { return tick >= 0 && trace[tick][a] != 'r' && trace[tick][b] != 'r' }
	if kind == 7 {
		return a < b && both(i) && !both(i-1)
	}
	if i == 0 || trace[i-1][b] != 'r' || trace[i][b] == 'r' {
		return false
	}
	last := -1
	for e := range i {
		if trace[e][a] == 'g' {
			last = e
		}
	}
	return kind == 2 && last == -1 && i < inter || kind == 8 && last >= 0 && i-1-last < inter
}

// isSafe is what the chapter says of a safe trace, looked at as a whole.
func isSafe(x api.Tables, trace []string) bool {
	for _, text := range trace {
		if len(text) != len(x.Groups) || strings.Trim(text, "rlga") != "" {
			return false
		}
	}
	for g, row := range x.Groups {
		var column strings.Builder
		for _, text := range trace {
			column.WriteByte(text[g])
		}
		if !goesRound(row, column.String()) {
			return false
		}
	}
	for _, c := range x.Conflicts {
		if !keepApart(trace, c.A, c.B, c.AB) || !keepApart(trace, c.B, c.A, c.BA) {
			return false
		}
	}
	return true
}

// goesRound tells whether a group's letters are red first, then lead, green, amber and red again, each as long as it has to be; the last one may be cut.
func goesRound(row api.Group, rest string) bool {
	if rest != "" && rest[0] != 'r' {
		return false
	}
	endless := len(rest)
	for rest != "" {
		for _, part := range []struct {
			letter      string
			least, most int
		}{{"r", 1, endless}, {"l", row.Lead, row.Lead}, {"g", row.Min, endless}, {"a", row.Amber, row.Amber}} {
			if rest == "" {
				break
			}
			n := len(rest) - len(strings.TrimLeft(rest, part.letter))
			rest = rest[n:]
			if n > part.most || n < part.least && rest != "" {
				return false
			}
		}
	}
	return true
}

// keepApart tells whether b is red with each a that is not, and for the intergreen's ticks behind each of a's greens; at tick -1 a is taken to have been green.
func keepApart(trace []string, a, b, inter int) bool {
	for i := -1; i < len(trace); i++ {
		if i >= 0 && trace[i][a] != 'r' && trace[i][b] != 'r' {
			return false
		}
		if i >= 0 && trace[i][a] != 'g' {
			continue
		}
		for j := i + 1; j < len(trace) && j <= i+inter; j++ {
			if trace[j][b] != 'r' {
				return false
			}
		}
	}
	return true
}

// The second ways know the chapter's examples: else they would tell nothing.
func TestModel(t *testing.T) {
	t.Parallel()
	for _, c := range examples {
		trace := texts(c.trace)
		list := modelAudit(c.tables, trace)
		if len(list) != len(c.want) || isSafe(c.tables, trace) != (len(c.want) == 0) {
			t.Fatalf("%v, want %v of %q; safe: %v", list, c.want, trace, isSafe(c.tables, trace))
		}
		for i, a := range list {
			if a != c.want[i] {
				t.Errorf("%v, want %v of %q", list, c.want, trace)
			}
		}
	}
}
