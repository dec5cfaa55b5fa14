package driver

import (
	"slices"
	"strconv"
	"strings"

	"junction/api"
	"junction/arith"
)

// stretch is a line of a trace: equal entries from a first tick to a last one.
type stretch struct {
	entry       api.Entry
	first, last int
}

// Trace is a run as text, a line for each stretch of equal entries.
func Trace(list []api.Entry) (string, api.Errno) {
	if len(list) > api.MaxTicks {
		return "", api.ErrTrace
	}
	var b strings.Builder
	for next := 0; next < len(list); {
		s := stretch{entry: list[next], first: next}
		if !isHeads(s.entry.Heads) || !isStage(s.entry.Stage) {
			return "", api.ErrTrace
		}
		for next < len(list) && list[next] == s.entry {
			next++
		}
		s.last = next - 1
		b.WriteString(s.line())
	}
	return b.String(), api.OK
}

// Retrace reads what Trace writes.
func Retrace(text string) ([]api.Entry, api.Errno) {
	var list []api.Entry
	for line := range strings.Lines(text) {
		s, ok := readStretch(line)
		ticks := len(list)
		if !ok || s.first != ticks || s.last >= api.MaxTicks || ticks > 0 && list[ticks-1] == s.entry {
			return nil, api.ErrTrace
		}
		list = append(list, slices.Repeat([]api.Entry{s.entry}, s.last-s.first+1)...)
	}
	return list, api.OK
}

func isHeads(heads string) bool {
	for i := range len(heads) {
		if i == api.MaxGroups || strings.IndexByte("rlga", heads[i]) < 0 {
			return false
		}
	}
	return true
}

func isStage(stage int) bool { return -1 <= stage && stage < api.MaxStages }

func (s stretch) line() string {
	ticks, heads, stage := strconv.Itoa(s.first), s.entry.Heads, "-"
	if s.last > s.first {
		ticks += "-" + strconv.Itoa(s.last)
	}
	if heads == "" {
		heads = "."
	}
	if s.entry.Stage >= 0 {
		stage = strconv.Itoa(s.entry.Stage)
	}
	return ticks + " " + heads + " " + stage + "\n"
}

// readStretch takes a line apart; whether it follows the one ahead of it is not its matter.
func readStretch(line string) (stretch, bool) {
	rest, ended := strings.CutSuffix(line, "\n")
	ticks, rest, _ := strings.Cut(rest, " ")
	letters, number, _ := strings.Cut(rest, " ")
	first, last, ticksOk := readTicks(ticks)
	heads, headsOk := readHeads(letters)
	stage, stageOk := readStage(number)
	return stretch{api.Entry{Heads: heads, Stage: stage}, first, last}, ended && ticksOk && headsOk && stageOk
}

func readTicks(text string) (first, last int, ok bool) {
	from, to, more := strings.Cut(text, "-")
	first, ok = readCount(from)
	if !ok || !more {
		return first, first, ok
	}
	last, ok = readCount(to)
	return first, last, ok && last > first
}

func readHeads(text string) (string, bool) {
	if text == "." {
		return "", true
	}
	return text, text != "" && isHeads(text)
}

func readStage(text string) (int, bool) {
	if text == "-" {
		return -1, true
	}
	stage, ok := readCount(text)
	return stage, ok && isStage(stage)
}

// readCount is a number from 0 on in its one decimal form, which is that of arith's words.
func readCount(text string) (int, bool) {
	n, errno := arith.Number(text)
	return int(n), errno == api.OK && n >= 0
}
