package load_test

// The check a second time, word by word: a content is a text, all of them are kept.

import (
	"slices"
	"strings"

	"junction/api"
	"junction/rom"
)

// verifier looks at one section after the other.
type verifier struct {
	m        api.Image
	contents []string // the stack's content ahead of each place, a letter a word: n or t
	reached  []bool
}

func model(m api.Image) api.Fault {
	_, f := modelContents(m)
	return f
}

// modelHeights is Heights, once nothing is wrong.
func modelHeights(m api.Image, entry int) []int {
	contents, _ := modelContents(m)
	list, end := make([]int, len(m.Code)), len(m.Code)
	for _, e := range modelEntries(m) {
		if e > entry {
			end = min(end, e)
		}
	}
	for p := range list {
		list[p] = -1
		if p >= entry && p < end {
			list[p] = len(contents[p])
		}
	}
	return list
}

func modelEntries(m api.Image) []int {
	var entries []int
	for _, s := range m.Slots {
		entries = append(entries, s.Enter, s.Tick, s.Leave)
	}
	return entries
}

func modelContents(m api.Image) ([]string, api.Fault) {
	if !rom.Formed(m) {
		return nil, at(api.ErrRom, 0)
	}
	entries := modelEntries(m)
	for i, entry := range entries {
		if i == 0 && entry != 0 || i > 0 && entry <= entries[i-1] || entry >= len(m.Code) {
			return nil, at(api.ErrSection, entry)
		}
	}
	v := &verifier{m: m, contents: make([]string, len(m.Code)), reached: make([]bool, len(m.Code))}
	for i, entry := range entries {
		end := len(m.Code)
		if i+1 < len(entries) {
			end = entries[i+1]
		}
		v.reached[entry] = true
		for p := entry; p < end; p++ {
			if code := v.place(p, end, i); code != api.OK {
				return nil, at(code, p)
			}
		}
	}
	return v.contents, api.Fault{}
}

// takes is what the instructions take off, and puts what they put on; of those that are not in it nothing.
var takes = map[int][2]string{
	api.InConst: {"", "n"}, api.InSmall: {"", "n"}, api.InElapsed: {"", "n"}, api.InVar: {"", "n"}, api.InTimer: {"", "n"}, api.InCounter: {"", "n"},
	api.InTruth: {"", "t"}, api.InDet: {"", "t"}, api.InGreen: {"", "t"}, api.InRed: {"", "t"},
	api.OpNeg: {"n", "n"}, api.OpAbs: {"n", "n"}, api.OpNot: {"t", "t"},
	api.OpAdd: {"nn", "n"}, api.OpSub: {"nn", "n"}, api.OpMul: {"nn", "n"}, api.OpDiv: {"nn", "n"}, api.OpRem: {"nn", "n"}, api.OpMin: {"nn", "n"}, api.OpMax: {"nn", "n"},
	api.OpLt: {"nn", "t"}, api.OpLe: {"nn", "t"}, api.OpGt: {"nn", "t"}, api.OpGe: {"nn", "t"},
	api.OpEq: {"xx", "t"}, api.OpNe: {"xx", "t"}, api.OpAnd: {"tt", "t"}, api.OpOr: {"tt", "t"},
	api.InStore: {"n", ""}, api.InIf: {"t", ""}, api.InAnd: {"t", ""}, api.InOr: {"t", ""},
}

// place looks at a place of the section number i, which goes up to end.
func (v *verifier) place(p, end, i int) api.Errno {
	in, content := v.m.Code[p], v.contents[p]
	row := takes[in.Op]
	switch {
	case !v.reached[p]:
		return api.ErrDead
	case in.Op == api.InPick && i%3 != 1:
		return api.ErrPick
	case !v.inside(in, i/3):
		return api.ErrIndex
	case len(content) < len(row[0]):
		return api.ErrStack
	}
	taken := content[len(content)-len(row[0]):]
	if row[0] == "xx" && taken[0] != taken[1] || row[0] != "xx" && taken != row[0] {
		return api.ErrSort
	}
	left := strings.TrimSuffix(content, taken) + row[1]
	ends := in.Op == api.InEnd || in.Op == api.InPick
	jumps := slices.Contains([]int{api.InIf, api.InJump, api.InAnd, api.InOr}, in.Op)
	arg := int(in.Arg)
	switch {
	case row[1] != "" && len(left) > v.m.Depth, ends && content != "":
		return api.ErrStack
	case jumps && (arg <= p || arg >= end):
		return api.ErrJump
	}
	if !ends && in.Op != api.InJump {
		if p+1 >= end {
			return api.ErrEnd
		}
		if !v.bring(p+1, left) {
			return api.ErrJoin2
		}
	}
	if in.Op == api.InAnd || in.Op == api.InOr {
		left = content
	}
	if jumps && !v.bring(arg, left) {
		return api.ErrJoin2
	}
	return api.OK
}

func (v *verifier) bring(p int, content string) bool {
	if v.reached[p] {
		return v.contents[p] == content
	}
	v.reached[p], v.contents[p] = true, content
	return true
}

// inside tells whether an instruction's Arg is in its table.
func (v *verifier) inside(in api.Instr, slot int) bool {
	count, arg := 1<<31, int(in.Arg)
	switch in.Op {
	case api.InConst:
		count = len(v.m.Pool)
	case api.InVar, api.InStore:
		count = len(v.m.Vars)
	case api.InTimer, api.InReset, api.InRun, api.InStop:
		count = v.m.Timers
	case api.InCounter, api.InZero, api.InCount:
		count = v.m.Counters
	case api.InDet, api.InClear:
		count = len(v.m.Dets)
	case api.InGreen, api.InRed:
		count = len(v.m.Tables.Groups)
	case api.InPick:
		return arg < len(v.m.Slots) && arg != slot
	}
	return arg < count
}
