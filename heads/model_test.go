package heads_test

import (
	"fmt"
	"strings"

	"junction/api"
)

// A second way to all answers: lamps that are structs, and a rule asked for each two groups.

type lamp struct{ aspect, in, away int }

func lampsOf(h api.Heads) []lamp {
	lamps := make([]lamp, len(h.Aspect))
	for i := range lamps {
		lamps[i] = lamp{h.Aspect[i], int(h.In[i]), int(h.Away[i])}
	}
	return lamps
}

// inter is the intergreen from o to g; -1: they don't conflict.
func inter(t api.Tables, o, g int) int {
	for _, c := range t.Conflicts {
		switch {
		case c.A == o && c.B == g:
			return c.AB
		case c.B == o && c.A == g:
			return c.BA
		}
	}
	return -1
}

// modelSound is of sound tables.
func modelSound(t api.Tables, h api.Heads) bool {
	for _, n := range []int{len(h.Aspect), len(h.In), len(h.Away)} {
		if n != len(t.Groups) {
			return false
		}
	}
	for g, l := range lampsOf(h) {
		most := map[int]int{api.Red: 1 << 40, api.Lead: t.Groups[g].Lead, api.Green: 1 << 40, api.Amber: t.Groups[g].Amber}
		if limit, known := most[l.aspect]; !known || l.in < 1 || l.in > limit {
			return false
		}
		if l.aspect == api.Green && l.away != 0 || l.aspect != api.Green && l.away <= 0 {
			return false
		}
		for o := range g {
			if inter(t, o, g) >= 0 && l.aspect*h.Aspect[o] != 0 {
				return false
			}
		}
	}
	return true
}

// goesTo is what a group does by itself: the aspect behind this one once its time is over.
func goesTo(row api.Group, l lamp, wanted bool) int {
	over := map[int]bool{
		api.Lead:  l.in >= row.Lead,
		api.Green: l.in >= row.Min && !wanted,
		api.Amber: l.in >= row.Amber,
	}
	if !over[l.aspect] {
		return l.aspect
	}
	aspect := (l.aspect + 1) % 4
	if aspect == api.Amber && row.Amber == 0 {
		aspect = api.Red
	}
	return aspect
}

func modelStep(t api.Tables, h api.Heads, want uint64) api.Heads {
	old := lampsOf(h)
	aspects := make([]int, len(old))
	for g, l := range old {
		aspects[g] = goesTo(t.Groups[g], l, in(want, g))
	}
	for g, l := range old {
		if l.aspect == api.Red && in(want, g) && mayStart(t, old, aspects, g) {
			aspects[g] = api.Lead
			if t.Groups[g].Lead == 0 {
				aspects[g] = api.Green
			}
		}
	}
	rows := make([][3]int, len(old))
	for g, l := range old {
		rows[g] = [3]int{aspects[g], 1, 0}
		if aspects[g] == l.aspect {
			rows[g][1] = min(l.in+1, api.MaxWord)
		}
		if aspects[g] != api.Green {
			rows[g][2] = min(l.away+1, api.MaxWord)
		}
	}
	return headsOf(rows...)
}

func mayStart(t api.Tables, old []lamp, aspects []int, g int) bool {
	for o := range old {
		if ticks := inter(t, o, g); ticks >= 0 && (aspects[o] != api.Red || old[o].away < ticks) {
			return false
		}
	}
	return true
}

func modelShow(h api.Heads) string {
	var picture strings.Builder
	for _, aspect := range h.Aspect {
		letter, known := map[int]string{0: "r", 1: "l", 2: "g", 3: "a"}[aspect]
		if !known {
			letter = "?"
		}
		picture.WriteString(letter)
	}
	return picture.String()
}

func modelGate(t api.Tables, h api.Heads, want uint64) bool {
	late := 0
	for g, l := range lampsOf(h) {
		if l.aspect == api.Green && l.in < t.Groups[g].Min && !in(want, g) {
			late++
		}
	}
	return late == 0
}

func modelSettled(t api.Tables, h api.Heads, want uint64) bool {
	var wanted strings.Builder
	for g := range t.Groups {
		wanted.WriteByte("rg"[want>>g&1])
	}
	return modelShow(h) == wanted.String()
}

// danger tells what is not safe in a run's pictures, looked at alone (P7.7); "": nothing.
func danger(t api.Tables, pictures []string) string {
	if strings.Trim(pictures[0], "r") != "" {
		return "the first is not all red"
	}
	if what := clash(t, pictures); what != "" {
		return what
	}
	for g, row := range t.Groups {
		column := make([]byte, len(pictures))
		for i, picture := range pictures {
			column[i] = picture[g]
		}
		if what := misshown(row, string(column)); what != "" {
			return fmt.Sprintf("group %d: %s", g, what)
		}
	}
	return early(t, pictures)
}

// clash tells of groups in conflict that are both other than red in one picture.
func clash(t api.Tables, pictures []string) string {
	for i, picture := range pictures {
		for _, c := range t.Conflicts {
			if picture[c.A] != 'r' && picture[c.B] != 'r' {
				return fmt.Sprintf("picture %d: %d and %d", i, c.A, c.B)
			}
		}
	}
	return ""
}

// early tells of a group that leaves red ahead of an intergreen's end; all groups were green at picture -1.
func early(t api.Tables, pictures []string) string {
	last := make([]int, len(t.Groups)) // the last picture at which a group was green
	for g := range last {
		last[g] = -1
	}
	for i, picture := range pictures {
		for _, c := range t.Conflicts {
			if picture[c.B] != 'r' && i-last[c.A] <= c.AB || picture[c.A] != 'r' && i-last[c.B] <= c.BA {
				return fmt.Sprintf("picture %d: %d and %d too early", i, c.A, c.B)
			}
		}
		for g := range last {
			if picture[g] == 'g' {
				last[g] = i
			}
		}
	}
	return ""
}

// misshown tells what is wrong in the letters of one group, picture by picture.
func misshown(row api.Group, column string) string {
	for rest := column; rest != ""; {
		reds := len(rest) - len(strings.TrimLeft(rest, "r"))
		if reds == 0 {
			return "no red ahead of " + rest
		}
		rest = rest[reds:]
		for _, part := range []struct {
			letter      string
			least, most int
		}{{"l", row.Lead, row.Lead}, {"g", row.Min, len(column)}, {"a", row.Amber, row.Amber}} {
			if rest == "" {
				break
			}
			n := len(rest) - len(strings.TrimLeft(rest, part.letter))
			rest = rest[n:]
			if n > part.most || n < part.least && rest != "" {
				return fmt.Sprintf("%d of %s ahead of %q", n, part.letter, rest)
			}
		}
	}
	return ""
}

// bound is that of P7.9.
func bound(t api.Tables) int {
	var lead, minimum, last int
	for _, g := range t.Groups {
		lead, minimum, last = max(lead, g.Lead), max(minimum, g.Min), max(last, g.Amber)
	}
	for _, c := range t.Conflicts {
		last = max(last, c.AB, c.BA)
	}
	return 2*lead + minimum + last
}
