package station_test

import (
	"encoding/hex"
	"fmt"
	"maps"
	"math/rand"
	"strconv"
	"strings"
	"testing"

	"junction/api"
	"junction/bank"
	"junction/driver"
	"junction/load"
	"junction/rom"
	"junction/station"
	"junction/timetable"
	"junction/wire"
)

const small = `plan small {
	group main vehicle min 7 amber 3 lead 2;
	group side vehicle min 5 amber 3;
	group walk pedestrian min 6 amber 4;
	conflict main side 5 6;
	conflict main walk 4 8;
	detector loop hold 2;
	detector push latch;
	timer rest;
	counter calls;
	var longest = 20;
	cond due = elapsed >= longest or loop and elapsed > 9;
	start flow;
	stage flow {
		green main;
		enter {
			reset rest;
			run rest;
		}
		next cross when push;
		next turn when due;
	}
	stage turn {
		green side;
		next flow when not loop or elapsed >= 12;
	}
	stage cross {
		green side, walk;
		enter {
			count calls;
			clear push;
		}
		next flow when elapsed >= 6;
	}
}
`

// quick has one group, which is green from its tick 1 on.
const quick = `plan quick {
	group way vehicle min 5 amber 3;
	start go;
	stage go { green way; next halt when elapsed >= 8; }
	stage halt { green; next go when elapsed >= 2; }
}
`

// pair has two groups in conflict, one of them with a lead.
const pair = `plan pair {
	group one vehicle min 6 amber 4 lead 1;
	group two pedestrian min 5 amber 0;
	conflict one two 5 3;
	detector call;
	start first;
	stage first { green one; next second when call or elapsed >= 9; }
	stage second { green two; next first when true; }
}
`

// bare has no groups.
const bare = `plan bare {
	start one;
	stage one { green; next two when elapsed >= 2; }
	stage two { green; next one when elapsed >= 1; }
}
`

// table is one whose slots come all minutes of the first day's first hour, of those alone.
const table = `timetable hour
day all
  at 00:01 slot 1
  at 00:02 slot 2
  at 00:03 flash
  at 00:04 slot 7
week all all all all all all all
`

// wide is a plan of 64 groups, all of them green together.
func wide() string {
	var decls, names strings.Builder
	for g := range 64 {
		fmt.Fprintf(&decls, "\tgroup g%d vehicle min 5 amber 3;\n", g)
		fmt.Fprintf(&names, ", g%d", g)
	}
	return "plan wide {\n" + decls.String() + "\tstart a;\n\tstage a { green " + names.String()[2:] + "; next b when elapsed >= 5; }\n\tstage b { green; next a when true; }\n}\n"
}

// expand writes a script out: lines are parted by " / ", and a name in braces stands for a text.
func expand(script string) string {
	script = strings.ReplaceAll(script, " / ", "\n")
	for name, text := range map[string]string{"small": small, "quick": quick, "pair": pair, "bare": bare, "table": table, "wide": wide()} {
		script = strings.ReplaceAll(script, "{"+name+"}\n", text)
	}
	return script
}

// wants holds the answers of a script against what they should be, each as expand writes it out.
func wants(t *testing.T, what, script, answers string) {
	t.Helper()
	got, f := station.Run(expand(script))
	want := expand(answers)
	if want != "" {
		want += "\n"
	}
	if got != want || f != (api.Fault{}) {
		t.Errorf("%s: %s\n%s\nwant\n%s (%v)", what, script, slashed(got), slashed(want), f)
	}
}

// slashed is the other way round.
func slashed(text string) string {
	return strings.ReplaceAll(strings.TrimSuffix(text, "\n"), "\n", " / ")
}

// mast is a station under test.
type mast struct {
	*station.Station
	t *testing.T
}

// stand is a new station behind a script whose lines are all taken.
func stand(t *testing.T, script string) mast {
	t.Helper()
	m := mast{station.New(), t}
	m.does(script)
	return m
}

// does obeys a script whose lines are all taken; the answer of the last one.
func (m mast) does(script string) string {
	m.t.Helper()
	last := ""
	for line := range strings.SplitSeq(expand(script), "\n") {
		answer, e := m.Do(line)
		if e != api.OK {
			m.t.Fatalf("%q of %q: %d %s", line, script, e, answer)
		}
		last = answer
	}
	return last
}

// says holds the answer of a script's last line against what it should be.
func (m mast) says(what, script, answer string) {
	m.t.Helper()
	if got := m.does(script); got != expand(answer) {
		m.t.Errorf("%s: %s: %q, want %q", what, script, got, expand(answer))
	}
}

// refuses holds a line that is refused against its error.
func (m mast) refuses(what, line string, want api.Errno) {
	m.t.Helper()
	got, e := m.Do(line)
	if report := driver.Report(api.Fault{Code: want}); e != want || got != report {
		m.t.Errorf("%s: %.60q: %q %d, want %q %d", what, line, got, e, report, want)
	}
}

// plain is what a bank holds.
type plain struct {
	Held   map[int]string
	Picked int
}

func (p plain) equal(q plain) bool { return p.Picked == q.Picked && maps.Equal(p.Held, q.Held) }

// held is what the bank of a flash holds.
func held(t *testing.T, flash []byte) plain {
	t.Helper()
	b, e := bank.Open(flash)
	if e != api.OK {
		t.Fatalf("Open: %d", e)
	}
	p := plain{Held: map[int]string{}, Picked: b.Picked()}
	for _, slot := range b.Slots() {
		data, _ := b.Get(slot)
		p.Held[slot] = string(data)
	}
	return p
}

// flashWith is a flash of so many sectors with these data by slot, of which one may be picked.
func flashWith(t *testing.T, sectors int, data map[int]string, picked int) []byte {
	t.Helper()
	flash, _ := bank.Blank(sectors)
	b, _ := bank.Open(flash)
	for slot, text := range data {
		if e := b.Put(slot, []byte(text)); e != api.OK {
			t.Fatalf("Put %d: %d", slot, e)
		}
	}
	if e := b.Pick(picked); e != api.OK {
		t.Fatalf("Pick %d: %d", picked, e)
	}
	acts := b.Acts()
	flash, _ = bank.Play(flash, acts, bank.Steps(acts), 0)
	return flash
}

// imageOf is the image's bytes of a source.
func imageOf(t *testing.T, src string) []byte {
	t.Helper()
	b, f := driver.Compile(src)
	if f.Code != api.OK {
		t.Fatal(driver.Report(f))
	}
	return b
}

// tablesOf are those of an image's bytes.
func tablesOf(t *testing.T, b []byte) api.Tables {
	t.Helper()
	m, f := load.Load(b)
	if f.Code != api.OK {
		t.Fatal(driver.Report(f))
	}
	return m.Tables
}

// hexOf are bytes as hex records.
func hexOf(t *testing.T, b []byte) string {
	t.Helper()
	text, e := rom.ToHex(b)
	if e != api.OK {
		t.Fatalf("ToHex: %d", e)
	}
	return text
}

// seen is a tick of a run's answer.
type seen struct {
	Lamps, Stage string
}

// ticks reads a run's answer, tick by tick, and holds it against its form: stretches follow one another, and each two differ.
func ticks(t *testing.T, first int, answer string) []seen {
	t.Helper()
	var list []seen
	for line := range strings.SplitSeq(answer, "\n") {
		words := strings.Split(line, " ")
		if len(words) != 3 {
			t.Fatalf("the line %q of %q", line, answer)
		}
		from, to, several := strings.Cut(words[0], "-")
		begin, e1 := strconv.Atoi(from)
		end := begin
		if several {
			end, _ = strconv.Atoi(to)
		}
		now := seen{words[1], words[2]}
		if e1 != nil || begin != first+len(list) || several && end <= begin || len(list) > 0 && list[len(list)-1] == now {
			t.Fatalf("the line %q of %q", line, answer)
		}
		for range end - begin + 1 {
			list = append(list, now)
		}
	}
	return list
}

// toldBytes and readBytes are bytes as the lines tell them, and back.
func toldBytes(b []byte) string {
	if len(b) == 0 {
		return "-"
	}
	return hex.EncodeToString(b)
}

func readBytes(t *testing.T, text string) []byte {
	t.Helper()
	if text == "-" {
		return nil
	}
	b, err := hex.DecodeString(text)
	if err != nil || len(b) == 0 || strings.ToLower(text) != text {
		t.Fatalf("%q are no bytes", text)
	}
	return b
}

// packed is a message as data.
func packed(t *testing.T, m api.Msg) []byte {
	t.Helper()
	b, e := wire.Pack(m)
	if e != api.OK {
		t.Fatalf("Pack %+v: %d", m, e)
	}
	return b
}

// told is a message in words.
func told(m api.Msg) string {
	switch m.Kind {
	case api.MsDone:
		return "done"
	case api.MsRefuse:
		return fmt.Sprint("refuse ", m.Num)
	case api.MsTell:
		return fmt.Sprint("tell ", m.Slot, " ", m.Num, " ", m.Sum)
	}
	return fmt.Sprint(m)
}

func choose[T any](r *rand.Rand, list ...T) T { return list[r.Intn(len(list))] }

// stamp is a time of day in seconds.
func stamp(second int) string {
	return fmt.Sprintf("%02d:%02d:%02d", second/3600, second/60%60, second%60)
}

// sumOf is the sum of bytes, as a flash has it.
func sumOf(b []byte) []byte {
	n := rom.Sum(b)
	return []byte{byte(n), byte(n >> 8), byte(n >> 16), byte(n >> 24)}
}

// faultOf is that of bytes that a slot may not hold.
func faultOf(slot int, data []byte) api.Fault {
	if slot == 8 {
		_, f := timetable.Parse(string(data))
		return f
	}
	_, f := load.Load(data)
	return f
}
