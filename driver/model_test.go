package driver_test

// The chapter's rules a second time, by other means: patterns, and whole numbers of any size.

import (
	"fmt"
	"math/big"
	"regexp"
	"slices"
	"strconv"
	"strings"

	"junction/api"
	"junction/check"
	"junction/code"
	"junction/opt"
	"junction/rom"
	"junction/safety"
	"junction/tree"
)

// modelTyped is a plan's typed one, or the fault of the phases check and safety.
func modelTyped(p api.Plan) (api.Typed, api.Fault) {
	if !tree.Formed(p) {
		return api.Typed{}, api.Fault{Code: api.ErrTree}
	}
	x, f := check.Resolve(p)
	if f != (api.Fault{}) {
		return api.Typed{}, f
	}
	list, errno := safety.Check(x)
	if errno != api.OK {
		panic(errno)
	}
	if len(list) > 0 {
		return api.Typed{}, api.Fault{Code: list[0].Code, At: modelPlace(p, list[0])}
	}
	return x, api.Fault{}
}

// modelPlace finds groups and stages by the symbols that check tells.
func modelPlace(p api.Plan, f api.Finding) api.Pos {
	list, _ := check.Symbols(p)
	symbol := func(kind, ix int) api.Symbol {
		return list[slices.IndexFunc(list, func(s api.Symbol) bool { return s.Kind == kind && s.Ix == ix })]
	}
	decl := func(fits func(d api.Decl) bool) api.Pos { return p.Decls[slices.IndexFunc(p.Decls, fits)].At }
	switch {
	case f.Code == api.ErrSlow && f.Stage == -1:
		return decl(func(d api.Decl) bool { return d.Kind == api.DeStart })
	case f.Code == api.ErrClash, f.Code == api.ErrTrap, f.Code == api.ErrSlow:
		return symbol(api.DeStage, f.Stage).At
	case f.Code == api.ErrShort:
		names := []string{symbol(api.DeGroup, f.A).Name, symbol(api.DeGroup, f.B).Name}
		return decl(func(d api.Decl) bool {
			return d.Kind == api.DeConflict && slices.Contains(names, d.Name) && slices.Contains(names, d.With)
		})
	}
	return symbol(api.DeGroup, f.A).At
}

// modelBuild is a plan's bytes, or its fault.
func modelBuild(p api.Plan) ([]byte, api.Fault) {
	x, f := modelTyped(p)
	if f != (api.Fault{}) {
		return nil, f
	}
	x, one := opt.Plan(x)
	m, two := code.Generate(x)
	b, three := rom.Encode(m)
	if one != api.OK || two != api.OK || three != api.OK {
		panic(fmt.Sprint(one, two, three))
	}
	return b, api.Fault{}
}

var tellable = regexp.MustCompile(`\A[rlga]{0,64} (-1|[0-9]{1,2}|1[0-9]{2}|2[0-4][0-9]|25[0-5])\z`)

// modelTrace writes a line a tick, and then takes lines together that tell the same.
func modelTrace(list []api.Entry) (string, api.Errno) {
	var lines [][2]int
	for i, e := range list {
		if !tellable.MatchString(fmt.Sprintf("%s %d", e.Heads, e.Stage)) {
			return "", api.ErrTrace
		}
		if i == 0 || fmt.Sprint(list[i-1]) != fmt.Sprint(e) {
			lines = append(lines, [2]int{i, i})
		}
		lines[len(lines)-1][1] = i
	}
	if len(list) > 65536 {
		return "", api.ErrTrace
	}
	var b strings.Builder
	for _, l := range lines {
		text := fmt.Sprintf("%d-%d %s %d\n", l[0], l[1], list[l[0]].Heads, list[l[0]].Stage)
		text = strings.Replace(text, fmt.Sprintf("%d-%d ", l[0], l[0]), fmt.Sprintf("%d ", l[0]), 1)
		text = strings.Replace(text, "  ", " . ", 1)
		b.WriteString(strings.Replace(text, " -1\n", " -\n", 1))
	}
	return b.String(), api.OK
}

var traceLine = regexp.MustCompile(`\A(0|[1-9][0-9]{0,4})(?:-([1-9][0-9]{0,4}))? (\.|[rlga]{1,64}) (-|[0-9]{1,3})\n\z`)

// modelRetrace reads what lines could mean, and asks whether modelTrace writes just them.
func modelRetrace(text string) ([]api.Entry, api.Errno) {
	var list []api.Entry
	for line := range strings.SplitAfterSeq(text, "\n") {
		if line == "" {
			continue
		}
		m := traceLine.FindStringSubmatch(line)
		if m == nil {
			return nil, api.ErrTrace
		}
		first, _ := strconv.Atoi(m[1])
		last, err := strconv.Atoi(m[2])
		if err != nil {
			last = first
		}
		stage, err := strconv.Atoi(m[4])
		if err != nil {
			stage = -1
		}
		for range last - first + 1 {
			list = append(list, api.Entry{Heads: strings.Trim(m[3], "."), Stage: stage})
		}
	}
	if again, errno := modelTrace(list); errno != api.OK || again != text {
		return nil, api.ErrTrace
	}
	return list, api.OK
}

var (
	inputGaps = regexp.MustCompile("[\x20\x09\x0a\x0d]+")
	inputWord = regexp.MustCompile(`\A(?:([0-9]+)\*)?([0-9a-fA-F]{1,16})\z`)
)

// modelInputs counts ticks in whole numbers of any size ahead of making any.
func modelInputs(text string) ([]uint64, api.Errno) {
	var counts []*big.Int
	var masks []uint64
	sum := new(big.Int)
	for _, word := range inputGaps.Split(text, -1) {
		if word == "" {
			continue
		}
		m := inputWord.FindStringSubmatch(word)
		if m == nil {
			return nil, api.ErrInputs
		}
		n, _ := new(big.Int).SetString("0"+m[1], 10)
		if m[1] == "" {
			n.SetInt64(1)
		}
		if n.Sign() == 0 {
			return nil, api.ErrInputs
		}
		bits, _ := new(big.Int).SetString(m[2], 16)
		counts, masks = append(counts, n), append(masks, bits.Uint64())
		sum.Add(sum, n)
	}
	if sum.Cmp(big.NewInt(65536)) > 0 {
		return nil, api.ErrInputs
	}
	var list []uint64
	for i, n := range counts {
		list = append(list, slices.Repeat([]uint64{masks[i]}, int(n.Int64()))...)
	}
	return list, api.OK
}

// danger tells what is not safe in a run's entries, looked at alone (W2); "": nothing.
func danger(t api.Tables, list []api.Entry) string {
	if strings.Trim(list[0].Heads, "r") != "" {
		return "not all red at tick 0"
	}
	for g, row := range t.Groups {
		column := make([]byte, len(list))
		for i, e := range list {
			column[i] = e.Heads[g]
		}
		if what := misshown(row, string(column)); what != "" {
			return fmt.Sprintf("group %d: %s", g, what)
		}
	}
	return early(t, list)
}

// early tells of groups in conflict both away from red, or of one that leaves red ahead of an intergreen's end.
func early(t api.Tables, list []api.Entry) string {
	green := make([]int, len(t.Groups)) // the last tick at which a group was green
	for g := range green {
		green[g] = -1
	}
	for i, e := range list {
		for _, c := range t.Conflicts {
			a, b := e.Heads[c.A] != 'r', e.Heads[c.B] != 'r'
			if a && b || b && i-green[c.A] <= c.AB || a && i-green[c.B] <= c.BA {
				return fmt.Sprintf("tick %d: groups %d and %d", i, c.A, c.B)
			}
		}
		for g := range green {
			if e.Heads[g] == 'g' {
				green[g] = i
			}
		}
	}
	return ""
}

// misshown tells what is wrong in the letters of one group, tick by tick.
func misshown(row api.Group, column string) string {
	for rest := column; rest != ""; {
		reds := len(rest) - len(strings.TrimLeft(rest, "r"))
		if reds == 0 {
			return "no red ahead of " + rest
		}
		rest = rest[reds:]
		for _, part := range []struct {
			letter      string
			least, most int
		}{{"l", row.Lead, row.Lead}, {"g", row.Min, len(column)}, {"a", row.Amber, row.Amber}} {
			if rest == "" {
				break
			}
			n := len(rest) - len(strings.TrimLeft(rest, part.letter))
			rest = rest[n:]
			if n > part.most || n < part.least && rest != "" {
				return fmt.Sprintf("%d of %s ahead of %q", n, part.letter, rest)
			}
		}
	}
	return ""
}
