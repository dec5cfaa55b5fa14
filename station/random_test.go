package station_test

// Plans, timetables and scripts at random.

import (
	"fmt"
	"math/rand"
	"strings"
	"testing"

	"junction/api"
	"junction/driver"
	"junction/rom"
	"junction/wire"
)

// anyPlan is the source of a plan that may run.
func anyPlan(r *rand.Rand) string {
	for {
		src := triedPlan(r)
		if _, f := driver.Compile(src); f.Code == api.OK {
			return src
		}
	}
}

// triedPlan is one that nearly always may.
func triedPlan(r *rand.Rand) string {
	var b strings.Builder
	fmt.Fprintf(&b, "plan p%d {\n", r.Intn(9))
	n := 1 + r.Intn(5)
	amber := make([]int, n)
	foes := map[[2]int]bool{}
	for g := range n {
		if r.Intn(3) == 0 {
			amber[g] = r.Intn(5)
			fmt.Fprintf(&b, "\tgroup g%d pedestrian min %d amber %d;\n", g, 4+r.Intn(5), amber[g])
		} else {
			amber[g] = 3 + r.Intn(3)
			fmt.Fprintf(&b, "\tgroup g%d vehicle min %d amber %d lead %d;\n", g, 5+r.Intn(5), amber[g], r.Intn(4))
		}
		for h := range g {
			if r.Intn(2) == 0 {
				foes[[2]int{h, g}] = true
				fmt.Fprintf(&b, "\tconflict g%d g%d %d %d;\n", h, g, amber[h]+r.Intn(5), amber[g]+r.Intn(5))
			}
		}
	}
	b.WriteString("\tdetector d0;\n\tdetector d1 latch hold 2;\n\ttimer t;\n\tcounter c;\n\tvar v = 3;\n\tstart s0;\n")
	greens := anyStages(r, n, foes)
	for i, green := range greens {
		fmt.Fprintf(&b, "\tstage s%d {\n\t\tgreen %s;\n", i, green)
		if r.Intn(2) == 0 {
			b.WriteString("\t\tenter { count c; reset t; run t; clear d1; v = v + 1; }\n")
		}
		for k := range 1 + r.Intn(2) {
			to := (i + 1 + k) % len(greens)
			if to != i {
				fmt.Fprintf(&b, "\t\tnext s%d when %s;\n", to, choose(r, "true", "d0", "d1", "elapsed >= 4", "t > 6 or d0", "not d1 and elapsed > v", "c % 3 == 1 or elapsed > 20"))
			}
		}
		b.WriteString("\t}\n")
	}
	b.WriteString("}\n")
	return b.String()
}

// anyStages are the green groups of at least two stages, each group in one of them at least, no two in conflict in one.
func anyStages(r *rand.Rand, n int, foes map[[2]int]bool) []string {
	left := r.Perm(n)
	var greens []string
	for len(left) > 0 || len(greens) < 2 {
		var rest []int
		var taken []string
		var mask []int
		for _, g := range left {
			fits := r.Intn(4) > 0
			for _, h := range mask {
				fits = fits && !foes[[2]int{min(g, h), max(g, h)}]
			}
			if fits {
				mask = append(mask, g)
				taken = append(taken, fmt.Sprint("g", g))
			} else {
				rest = append(rest, g)
			}
		}
		left = rest
		greens = append(greens, strings.Join(taken, ", "))
	}
	return greens
}

// anyTable is the text of a timetable whose slots change every few minutes.
func anyTable(r *rand.Rand) string {
	var b strings.Builder
	b.WriteString("timetable t\n")
	for k := range 2 {
		fmt.Fprintf(&b, "day k%d\n", k)
		minute := 0
		for range 1 + r.Intn(8) {
			minute += r.Intn(3)
			what := fmt.Sprint("slot ", r.Intn(8))
			if r.Intn(4) == 0 {
				what = "flash"
			}
			fmt.Fprintf(&b, "at %02d:%02d %s\n", minute/60, minute%60, what)
			minute++
		}
	}
	b.WriteString("week k0 k1 k0 k1 k0 k1 k0\n")
	if r.Intn(2) == 0 {
		fmt.Fprintf(&b, "shift 2026-03-29 00:0%d +%d\n", r.Intn(6), r.Intn(5))
	}
	return b.String()
}

// writer makes a script line by line, and talks to the station as a control room does.
type writer struct {
	r     *rand.Rand
	plans []string
	stuck bool // whether lamps may be stuck
	wrong int  // one line in so many is a wrong one; 0: none
	room  *wire.End
	power bool // as far as the writer can tell
}

func newWriter(r *rand.Rand, stuck bool, wrong int) *writer {
	w := &writer{r: r, stuck: stuck, wrong: wrong, room: wire.NewEnd(), plans: []string{small, quick, pair, bare}}
	for range 4 {
		w.plans = append(w.plans, anyPlan(r))
	}
	return w
}

func (w *writer) plan() string { return choose(w.r, w.plans...) }

// text is what a block may hold.
func (w *writer) text(kind string, slot int) string {
	src := w.plan()
	if slot == 8 && w.r.Intn(10) > 0 {
		src = anyTable(w.r)
	}
	if kind == "put" {
		if w.wrong > 0 && w.r.Intn(8) == 0 {
			return src[w.r.Intn(len(src)):]
		}
		return src
	}
	data := []byte(src)
	if slot != 8 {
		data, _ = driver.Compile(src)
	}
	if w.wrong > 0 && w.r.Intn(8) == 0 && len(data) > 0 {
		data[w.r.Intn(len(data))] ^= 1 << w.r.Intn(8)
	}
	text, _ := rom.ToHex(data)
	return text
}

func (w *writer) block() []string {
	kind, slot := choose(w.r, "put", "put", "hex"), choose(w.r, 0, 1, 2, 3, 7, 8, 8)
	lines := []string{fmt.Sprint(kind, " ", slot)}
	lines = append(lines, strings.Split(strings.TrimSuffix(w.text(kind, slot), "\n"), "\n")...)
	return append(lines, choose(w.r, ".", " . ", ".# end"))
}

// messages are what the control room sends next: one, or an upload, which is mostly whole.
func (w *writer) messages() []api.Msg {
	r := w.r
	switch r.Intn(5) {
	case 0:
		return []api.Msg{pickOf(choose(r, 0, 1, 2, 3, 7, 255, 255, 8, 6))}
	case 1:
		return []api.Msg{dropOf(choose(r, 0, 1, 2, 3, 7, 8, 9))}
	case 2:
		return []api.Msg{ask}
	}
	slot := choose(r, 0, 1, 2, 3, 7, 8)
	data := []byte(anyTable(r))
	if slot != 8 {
		data, _ = driver.Compile(w.plan())
	}
	list := []api.Msg{beginOf(slot, data)}
	size := 50 + r.Intn(197)
	for at := 0; at < len(data); at += size {
		list = append(list, pieceOf(at, string(data[at:min(at+size, len(data))])))
	}
	list = append(list, finish)
	for range r.Intn(3) {
		switch i := r.Intn(len(list)); r.Intn(3) {
		case 0:
			list = append(list[:i], list[i+1:]...)
		case 1:
			list = append(list, list[i])
		}
		if len(list) == 0 {
			return []api.Msg{finish}
		}
	}
	return list
}

// talk is a line of bytes: what the control room's end sends, now and then spoilt.
func (w *writer) talk() string {
	r := w.r
	if r.Intn(2) == 0 {
		for _, m := range w.messages() {
			if b, e := wire.Pack(m); e == api.OK {
				w.room.Send(b)
			}
		}
	}
	if r.Intn(3) == 0 {
		w.room.Timeout()
	}
	out := w.room.Poll()
	if len(out) > 0 && r.Intn(4) == 0 {
		switch i := r.Intn(len(out)); r.Intn(4) {
		case 0:
			out[i] ^= 1 << r.Intn(8)
		case 1:
			out = out[:i]
		case 2:
			out = out[i:]
		case 3:
			out = append(out, out...)
		}
	}
	return "bytes " + toldBytes(out)
}

// heard takes the station's answer to a line.
func (w *writer) heard(t *testing.T, line, answer string, e api.Errno) {
	t.Helper()
	if e != api.OK {
		return
	}
	switch {
	case line == "timeout" || strings.HasPrefix(line, "bytes "):
		w.room.Feed(readBytes(t, answer))
		w.room.Take()
	case strings.HasPrefix(line, "power on"):
		w.room, w.power = wire.NewEnd(), true
	case strings.HasPrefix(line, "power off"), strings.HasPrefix(line, "crash"):
		w.power = false
	}
}

// ticks are the words of a run.
func (w *writer) ticks() string {
	var words []string
	for range 1 + w.r.Intn(3) {
		words = append(words, choose(w.r, "0", "1", "2", "3", fmt.Sprint(1+w.r.Intn(12), "*", w.r.Intn(4)), fmt.Sprint(1+w.r.Intn(60), "*0")))
	}
	return strings.Join(words, " ")
}

// lines are the next ones of the script: one, or a block.
func (w *writer) lines() []string {
	r := w.r
	if w.wrong > 0 && r.Intn(w.wrong) == 0 {
		return []string{w.wrongLine()}
	}
	if !w.power {
		return []string{choose(r, "power on", "power on", "power on", "power on", "show", fmt.Sprint("flash ", 4+r.Intn(12)), w.clock())}
	}
	switch r.Intn(20) {
	case 0, 1, 2:
		return w.block()
	case 3, 4, 5, 6, 7, 8, 9:
		return []string{"run " + w.ticks()}
	case 10, 11:
		return []string{fmt.Sprint("pick ", choose(r, 0, 1, 2, 3, 7))}
	case 12:
		return []string{"pick auto"}
	case 13:
		return []string{fmt.Sprint("drop ", choose(r, 0, 1, 2, 3, 7, 8)), "show"}
	case 14, 15:
		return []string{w.talk()}
	case 16:
		return []string{choose(r, w.clock(), w.clock(), "show", "log", "timeout")}
	case 17:
		return []string{choose(r, "power off", fmt.Sprint("crash ", r.Intn(choose(r, 20, 400, 5000)), " ", r.Intn(256)), "show", "show")}
	}
	if !w.stuck {
		return []string{"show"}
	}
	return []string{choose(r, "free", "free", "reset", "reset", fmt.Sprint("stick ", r.Intn(4), " ", choose(r, "r", "l", "g", "a")), "log")}
}

func (w *writer) clock() string {
	return "clock " + choose(w.r, "2026-11-14", "2026-11-15", "2026-03-28", "2026-03-29", "2000-01-01", "2399-12-31") + " " + choose(w.r, "00:00", "00:01", "00:03", "00:05", "23:58", "23:59")
}

// wrongLine is one that is mostly refused.
func (w *writer) wrongLine() string {
	r := w.r
	switch r.Intn(4) {
	case 0:
		return choose(r, badWords...)
	case 1:
		return choose(r, goodWords...)
	case 2:
		return choose(r, ".", "", "#", "hello", "flash 8", "power on", "power off", "put 9", "hex 9", "drop 9", "pick 8", "run x", "reset", "crash 0 0", strings.Repeat("x", 65537))
	}
	line := []byte(choose(r, "flash 8", "power on", "pick 1", "run 3*0 1", "stick 1 g", "crash 5 5", "clock 2026-11-14 07:30", "show # so", "bytes 7e7e"))
	line[r.Intn(len(line))] = choose[byte](r, ' ', '#', '\n', '0', 'x', '\t', 255)
	return string(line)
}
