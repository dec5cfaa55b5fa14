package load_test

import (
	"fmt"
	"math/rand"
	"slices"
	"strings"
	"testing"

	"junction/api"
	"junction/load"
)

// row is an image's code, and what Verify tells of it.
type row struct {
	code  string
	want  api.Errno
	place int
}

func verifyRows(t *testing.T, image func(string) api.Image, rows []row) {
	t.Helper()
	for _, c := range rows {
		if f := load.Verify(image(c.code)); f != at(c.want, c.place) {
			t.Errorf("%s: %v, want %d at %d", c.code, f, c.want, c.place)
		}
	}
}

// P12.1: the chapter's examples.
func TestExamples(t *testing.T) {
	t.Parallel()
	verifyRows(t, plain, []row{
		{"end; end; end", api.OK, 0},
		{"small 1, store 0, end; end; end", api.OK, 0},
		{"truth 1, store 0, end; end; end", api.ErrSort, 1},
		{"small 1, end; end; end", api.ErrStack, 1},
		{"store 0, end; end; end", api.ErrStack, 0},
		{"small 1, small 1, small 1, add, add, store 0, end; end; end", api.ErrStack, 2},
		{"end, end; end; end", api.ErrDead, 1},
		{"run 0; end; end", api.ErrEnd, 0},
		{"run 1, end; end; end", api.ErrIndex, 0},
		{"truth 1, if 2, end; end; end", api.OK, 0},
		{"truth 1, if 3, end; end; end", api.ErrJump, 1},
		{"jump 0, end; end; end", api.ErrJump, 0},
		{"truth 1, andjump 3, small 1, store 0, end; end; end", api.ErrJoin2, 2},
		{"truth 1, andjump 2, end; end; end", api.ErrJoin2, 1},
		{"end; pick 0; end", api.ErrIndex, 1},
		{"pick 0; end; end", api.ErrPick, 0},
	})
	m := plain("end; end; end")
	m.Slots[0].Tick, m.Slots[0].Leave = 0, 1
	if f := load.Verify(m); f != at(api.ErrSection, 0) {
		t.Errorf("Enter and Tick at 0: %v", f)
	}
}

// P12.1, step 1: what is not formed is refused ahead of all else, without a place.
func TestNotFormed(t *testing.T) {
	t.Parallel()
	for name, spoil := range map[string]func(*api.Image){
		"no name":             func(m *api.Image) { m.Name = "" },
		"a name that is none": func(m *api.Image) { m.Name = "stage" },
		"a group twice":       func(m *api.Image) { m.Tables.Groups[1] = m.Tables.Groups[0] },
		"a detector's hold":   func(m *api.Image) { m.Dets[0].Hold = 3601 },
		"timers":              func(m *api.Image) { m.Timers = 65 },
		"no slots":            func(m *api.Image) { m.Slots = nil },
		"an Id twice":         func(m *api.Image) { m.Slots = append(m.Slots, m.Slots[0]) },
		"the start":           func(m *api.Image) { m.Start = 1 },
		"a depth below 0":     func(m *api.Image) { m.Depth = -1 },
		"a depth":             func(m *api.Image) { m.Depth = 65536 },
		"a pool":              func(m *api.Image) { m.Pool = make([]int32, 16385) },
		"an entry below 0":    func(m *api.Image) { m.Slots[0].Enter = -1 },
		"an entry":            func(m *api.Image) { m.Slots[0].Leave = 65536 },
		"no instruction":      func(m *api.Image) { m.Code[1].Op = 127 },
		"number 0":            func(m *api.Image) { m.Code[1] = api.Instr{} },
		"an end's Arg":        func(m *api.Image) { m.Code[2].Arg = 1 },
		"a truth of 2":        func(m *api.Image) { m.Code[0] = instruction("truth 2") },
		"a small 128":         func(m *api.Image) { m.Code[0] = instruction("small 128") },
		"a jump below 0":      func(m *api.Image) { m.Code[0] = instruction("jump -1") },
		"too much code":       func(m *api.Image) { m.Code = slices.Repeat(m.Code, 65536) },
	} {
		for _, code := range []string{"end; end; end", "truth 1, store 9, end; end; end"} {
			m := rich(code)
			spoil(&m)
			if f := load.Verify(m); f != at(api.ErrRom, 0) {
				t.Errorf("%s: %v", name, f)
			}
			if list, f := load.Heights(m, 0); f != at(api.ErrRom, 0) || len(list) != 0 {
				t.Errorf("%s: Heights: %v, %v", name, list, f)
			}
		}
	}
	if f := load.Verify(api.Image{}); f != at(api.ErrRom, 0) {
		t.Errorf("the zero image: %v", f)
	}
}

// P12.1, step 2: the entries rise strictly from 0 on, within the code. The first that does not is told, by its own number; ahead of all that is wrong with the code.
func TestSections(t *testing.T) {
	t.Parallel()
	for _, c := range []struct {
		entries []int // three a slot
		length  int   // of the code
		want    api.Errno
		place   int
	}{
		{[]int{0, 1, 2}, 3, api.OK, 0},
		{[]int{0, 1, 2, 3, 4, 5}, 6, api.OK, 0},
		{[]int{0, 1, 2}, 2, api.ErrSection, 2},
		{[]int{0, 1, 2}, 1, api.ErrSection, 1},
		{[]int{0, 1, 2}, 0, api.ErrSection, 0},
		{[]int{1, 2, 3}, 4, api.ErrSection, 1},
		{[]int{3, 0, 1}, 4, api.ErrSection, 3},
		{[]int{65535, 0, 1}, 4, api.ErrSection, 65535},
		{[]int{0, 0, 1}, 3, api.ErrSection, 0},
		{[]int{0, 2, 2}, 3, api.ErrSection, 2},
		{[]int{0, 2, 1}, 3, api.ErrSection, 1},
		{[]int{0, 2, 0}, 3, api.ErrSection, 0},
		{[]int{0, 3, 1}, 3, api.ErrSection, 3},
		{[]int{0, 65535, 1}, 3, api.ErrSection, 65535},
		{[]int{0, 1, 3}, 3, api.ErrSection, 3},
		{[]int{0, 1, 2, 2, 4, 5}, 6, api.ErrSection, 2},
		{[]int{0, 1, 2, 1, 4, 5}, 6, api.ErrSection, 1},
		{[]int{0, 1, 2, 0, 1, 2}, 6, api.ErrSection, 0},
		{[]int{0, 1, 2, 3, 5, 4}, 6, api.ErrSection, 4},
		{[]int{0, 1, 2, 3, 4, 6}, 6, api.ErrSection, 6},
		{[]int{3, 4, 5, 0, 1, 2}, 6, api.ErrSection, 3},
	} {
		m := rich("end; end; end")
		m.Slots = nil
		for i := 0; i < len(c.entries); i += 3 {
			m.Slots = append(m.Slots, api.Slot{Id: i, Enter: c.entries[i], Tick: c.entries[i+1], Leave: c.entries[i+2]})
		}
		m.Code = slices.Repeat([]api.Instr{{Op: api.InEnd}}, c.length)
		if f := load.Verify(m); f != at(c.want, c.place) {
			t.Errorf("%v in %d: %v, want %d at %d", c.entries, c.length, f, c.want, c.place)
		}
		if c.want == api.OK || c.length == 0 {
			continue
		}
		m.Code[0] = instruction("store 9")
		if f := load.Verify(m); f != at(c.want, c.place) {
			t.Errorf("%v in %d, and a wrong instruction: %v, want %d at %d", c.entries, c.length, f, c.want, c.place)
		}
	}
}

// P12.1, steps 3a, 3b: dead places, and picks that stand where they may not.
func TestDeadAndPicks(t *testing.T) {
	t.Parallel()
	verifyRows(t, rich, []row{
		{"jump 2, run 0, end; end; end", api.ErrDead, 1},
		{"jump 1, end, end; end; end", api.ErrDead, 2},
		{"jump 1, jump 2, end; end; end", api.OK, 0},
		{"end; end, run 0, end; end", api.ErrDead, 2},
		{"end; end; end, end", api.ErrDead, 3},
		{"end; det 0, if 5, pick 1, end, end; end; end; end; end", api.ErrDead, 4},
		{"end; det 0, if 4, pick 1, end; end; end; end; end", api.OK, 0},
		{"det 0, if 4, jump 5, end, jump 5, end; end; end", api.ErrDead, 3},
		{"end; pick 1; end; end; pick 0; end", api.OK, 0},
		{"end; pick 1; end; end; end; pick 0", api.ErrPick, 5},
		{"end; pick 1; end; pick 0; end; end", api.ErrPick, 3},
		{"end; end; pick 1; end; end; end", api.ErrPick, 2},
		{"pick 1; end; end; end; end; end", api.ErrPick, 0},
		// a comes ahead of b and of all others.
		{"end, pick 0; end; end", api.ErrDead, 1},
		{"end, store 9; end; end", api.ErrDead, 1},
		{"end, jump 0; end; end", api.ErrDead, 1},
		{"end, run 0; end; end", api.ErrDead, 1},
		// b comes ahead of c and g.
		{"pick 0; end; end", api.ErrPick, 0},
		{"pick 7; end; end", api.ErrPick, 0},
		{"small 1, pick 1; end; end; end; end; end", api.ErrPick, 1},
	})
}

// tables are the instructions that choose something, and how many of it the rich image has.
var tables = map[string]int{
	"const": 5, "var": 4, "store": 4, "timer": 2, "reset": 2, "run": 2, "stop": 2, "counter": 3, "zero": 3, "count": 3,
	"det": 6, "clear": 6, "green": 7, "red": 7,
}

// around is code in which an instruction has what it takes, and what it puts is taken.
func around(text string) string {
	row := takes[instruction(text).Op]
	var parts []string
	for _, letter := range strings.ReplaceAll(row[0], "x", "n") {
		parts = append(parts, map[rune]string{'n': "small 1", 't': "truth 1"}[letter])
	}
	parts = append(parts, text)
	switch row[1] {
	case "n":
		parts = append(parts, "store 0")
	case "t":
		parts = append(parts, fmt.Sprint("if ", len(parts)+1))
	}
	return strings.Join(append(parts, "end"), ", ")
}

// P12.1, step 3c: an Arg is in its table.
func TestTables(t *testing.T) {
	t.Parallel()
	for word, count := range tables {
		place := len(takes[codes[word]][0])
		for _, arg := range []int{0, count - 1, count, count + 1, 255} {
			want := at(api.ErrIndex, place)
			if arg < count {
				want = api.Fault{}
			}
			for section, code := range []string{"%s; end; end", "end; %s; end", "end; end; %s"} {
				if want != (api.Fault{}) {
					want = at(api.ErrIndex, section+place)
				}
				code = fmt.Sprintf(code, around(fmt.Sprint(word, " ", arg)))
				m := rich(code)
				for i, in := range m.Code { // the jump that takes a truth off is written for the first section
					if in.Op == api.InIf {
						m.Code[i].Arg += int32(section)
					}
				}
				if f := load.Verify(m); f != want {
					t.Errorf("%s: %v, want %v", code, f, want)
				}
			}
		}
	}
	const more = "; end; end; end; end"
	verifyRows(t, rich, []row{
		{"end; pick 1" + more, api.OK, 0},
		{"end; pick 0" + more, api.ErrIndex, 1},
		{"end; pick 2" + more, api.ErrIndex, 1},
		{"end; pick 255" + more, api.ErrIndex, 1},
		{"end; end; end; end; pick 0; end", api.OK, 0},
		{"end; end; end; end; pick 1; end", api.ErrIndex, 4},
		{"end; pick 2; end; end; pick 2; end; end; pick 0; end", api.OK, 0},
		{"end; pick 2; end; end; pick 2; end; end; pick 2; end", api.ErrIndex, 7},
		// What has no table is not looked at: the pool has five words, no slot but one is there.
		{"small 127, store 0, small -128, store 0, end; end; end", api.OK, 0},
		{"truth 1, if 2, truth 0, if 4, end; end; end", api.OK, 0},
		// c comes ahead of d, e, f and g.
		{"store 4, end; end; end", api.ErrIndex, 0},
		{"truth 1, store 4, end; end; end", api.ErrIndex, 1},
		{"elapsed, elapsed, elapsed, var 4, end; end; end", api.ErrIndex, 3},
		{"end; small 1, pick 0; end", api.ErrIndex, 2},
		{"run 2; end; end", api.ErrIndex, 0},
	})
}

// P12.1, step 3c: an empty table has no first place.
func TestEmptyTables(t *testing.T) {
	t.Parallel()
	for word := range tables {
		m := plain(around(word+" 0") + "; end; end")
		m.Vars, m.Timers = nil, 0
		if f := load.Verify(m); f != at(api.ErrIndex, len(takes[codes[word]][0])) {
			t.Errorf("%s 0 of none: %v", word, f)
		}
	}
}

// P12.1, steps 3d and 3e: every instruction takes what the table says, on any stack of up to three words.
func TestWhatIsTaken(t *testing.T) {
	t.Parallel()
	var stacks []string
	for i := range 15 { // all texts of n and t of up to three letters
		text := strings.NewReplacer("0", "n", "1", "t").Replace(fmt.Sprintf("%b", i+1)[1:])
		stacks = append(stacks, text)
	}
	for word, op := range codes {
		if slices.Contains([]string{"end", "jump", "pick"}, word) {
			continue
		}
		for _, stack := range stacks {
			parts, want := pushes(stack), api.OK
			row := takes[op]
			needs := row[0]
			have := stack[max(0, len(stack)-len(needs)):]
			switch {
			case len(have) < len(needs):
				want = api.ErrStack
			case needs == "xx" && have[0] != have[1], needs != "xx" && have != needs:
				want = api.ErrSort
			}
			text := word
			if tables[word] > 0 {
				text += " 0"
			} else if slices.Contains([]string{"if", "andjump", "orjump"}, word) {
				text += fmt.Sprint(" ", len(stack)+1)
				if want == api.OK && word != "if" {
					want = api.ErrJoin2
				}
			}
			m := rich(strings.Join(append(parts, text, "end"), ", ") + "; end; end")
			m.Depth = 4
			place := len(stack)
			if left := stack[:len(stack)-len(have)] + row[1]; want == api.OK && left != "" {
				want, place = api.ErrStack, place+1 // the end finds it
			}
			if want == api.OK {
				place = 0
			}
			if f := load.Verify(m); f != at(want, place) {
				t.Errorf("%s on %q: %v, want %d at %d", word, stack, f, want, place)
			}
		}
	}
}

// pushes is code that puts such words on the stack.
func pushes(stack string) []string {
	var parts []string
	for _, letter := range stack {
		parts = append(parts, map[rune]string{'n': "small 1", 't': "truth 1"}[letter])
	}
	return parts
}

// P12.1: what instructions put on is of the kind that the table says.
func TestWhatIsPut(t *testing.T) {
	t.Parallel()
	for word, op := range codes {
		row := takes[op]
		if row[1] == "" {
			continue
		}
		text := word
		if word == "small" || word == "truth" || tables[word] > 0 {
			text += " 0"
		}
		parts := append(pushes(strings.ReplaceAll(row[0], "x", "t")), text)
		number := load.Verify(rich(strings.Join(append(slices.Clone(parts), "store 0", "end"), ", ") + "; end; end"))
		truth := load.Verify(rich(strings.Join(append(slices.Clone(parts), "not", fmt.Sprint("if ", len(parts)+2), "end"), ", ") + "; end; end"))
		wrong := at(api.ErrSort, len(parts))
		if row[1] == "n" && (number != (api.Fault{}) || truth != wrong) || row[1] == "t" && (truth != (api.Fault{}) || number != wrong) {
			t.Errorf("%s: as a number %v, as a truth %v", word, number, truth)
		}
	}
}

// P12.1, steps 3d to 3g: the stack and its kinds.
func TestStacks(t *testing.T) {
	t.Parallel()
	verifyRows(t, rich, []row{
		// d: too few words, whatever they are.
		{"truth 1, add, store 0, end; end; end", api.ErrStack, 1},
		{"small 1, and, if 3, end; end; end", api.ErrStack, 1},
		{"small 1, eq, if 3, end; end; end", api.ErrStack, 1},
		{"neg, store 0, end; end; end", api.ErrStack, 0},
		{"andjump 1, end; end; end", api.ErrStack, 0},
		{"orjump 1, end; end; end", api.ErrStack, 0},
		{"if 1, end; end; end", api.ErrStack, 0},
		// d comes ahead of h and i.
		{"if 0, end; end; end", api.ErrStack, 0},
		{"andjump 0, end; end; end", api.ErrStack, 0},
		{"store 0; end; end", api.ErrStack, 0},
		// e: the wrong kind, on top or below; ahead of h, i and j.
		{"truth 1, small 1, add, store 0, end; end; end", api.ErrSort, 2},
		{"small 1, truth 1, add, store 0, end; end; end", api.ErrSort, 2},
		{"truth 1, small 1, and, if 4, end; end; end", api.ErrSort, 2},
		{"small 1, truth 1, and, if 4, end; end; end", api.ErrSort, 2},
		{"small 1, truth 1, ne, if 4, end; end; end", api.ErrSort, 2},
		{"truth 1, small 1, ne, if 4, end; end; end", api.ErrSort, 2},
		{"truth 1, truth 1, lt, if 4, end; end; end", api.ErrSort, 2},
		{"small 1, if 0, end; end; end", api.ErrSort, 1},
		{"small 1, andjump 9, end; end; end", api.ErrSort, 1},
		{"small 1, orjump 2, end; end; end", api.ErrSort, 1},
		{"truth 1, store 0; end; end", api.ErrSort, 1},
		{"truth 1, truth 1, andjump 4, store 0, if 5, end; end; end", api.ErrSort, 3},
		// f: as high as Depth, which is 3, and no higher; ahead of i and j.
		{"small 1, small 1, small 1, add, add, store 0, end; end; end", api.OK, 0},
		{"small 1, small 1, small 1, small 1, add, add, add, store 0, end; end; end", api.ErrStack, 3},
		{"small 1, small 1, small 1, truth 1; end; end", api.ErrStack, 3},
		{"small 1, small 1, small 1, neg, add, add, store 0, end; end; end", api.OK, 0},
		{"truth 1, truth 1, truth 1, andjump 4, end; end; end", api.ErrJoin2, 3},
		{"truth 1, truth 1, truth 1, orjump 5, truth 0, and, if 7, if 8, end; end; end", api.OK, 0},
		// g: an end or a pick on what is not taken.
		{"truth 1, end; end; end", api.ErrStack, 1},
		{"small 1, small 1, end; end; end", api.ErrStack, 2},
		{"end; truth 1, pick 1; end; end; end; end", api.ErrStack, 2},
		{"end; end; elapsed, end", api.ErrStack, 3},
	})
}

// P12.1, steps 3h and 3i: jumps go forward within the section, and nothing runs out of it.
func TestJumpsAndEnds(t *testing.T) {
	t.Parallel()
	verifyRows(t, rich, []row{
		{"jump 1, end; end; end", api.OK, 0},
		{"jump 2, end; end; end", api.ErrJump, 0},
		{"jump 3, end; end; end", api.ErrJump, 0},
		{"jump 65535, end; end; end", api.ErrJump, 0},
		{"run 0, jump 0, end; end; end", api.ErrJump, 1},
		{"run 0, jump 1, end; end; end", api.ErrJump, 1},
		{"end; jump 2, end; end", api.OK, 0},
		{"end; jump 0, end; end", api.ErrJump, 1},
		{"end; jump 1, end; end", api.ErrJump, 1},
		{"end; jump 3, end; end", api.ErrJump, 1},
		{"end; end; jump 3, end", api.OK, 0},
		{"end; end; jump 4, end", api.ErrJump, 2},
		{"truth 1, if 2, end; end; end", api.OK, 0},
		{"truth 1, if 1, end; end; end", api.ErrJump, 1},
		{"truth 1, if 0, end; end; end", api.ErrJump, 1},
		{"truth 1, if 3, end; end; end", api.ErrJump, 1},
		{"truth 1, andjump 1, end; end; end", api.ErrJump, 1},
		{"truth 1, andjump 3, end; end; end", api.ErrJump, 1},
		{"truth 1, orjump 0, end; end; end", api.ErrJump, 1},
		{"truth 1, orjump 65535, end; end; end", api.ErrJump, 1},
		{"end; end; truth 1, if 5, end", api.ErrJump, 3},
		{"end; end; truth 1, if 4, end", api.OK, 0},
		// h comes ahead of i and j.
		{"truth 1, if 0; end; end", api.ErrJump, 1},
		{"truth 1, if 2; end; end", api.ErrJump, 1},
		{"truth 1, andjump 2; end; end", api.ErrJump, 1},
		{"jump 1; end; end", api.ErrJump, 0},
		{"jump 0; end; end", api.ErrJump, 0},
		{"truth 1, truth 1, andjump 4, andjump 3, if 5, end; end; end", api.ErrJump, 3},
		// i: in each section, the code's last one too.
		{"small 1; end; end", api.ErrEnd, 0},
		{"end; run 0; end", api.ErrEnd, 1},
		{"end; end; run 0", api.ErrEnd, 2},
		{"end; end; run 0, run 0, run 0", api.ErrEnd, 4},
		{"small 1, store 0; end; end", api.ErrEnd, 1},
		{"end; end; truth 1, if 4, run 0", api.ErrEnd, 4},
		{"end; end; jump 3, run 0", api.ErrEnd, 3},
		{"truth 1, not; end; end", api.ErrEnd, 1},
	})
}

// P12.1, step 3j: all ways to a place bring the same.
func TestJoins(t *testing.T) {
	t.Parallel()
	verifyRows(t, rich, []row{
		// One way with an empty stack, the other with a word.
		{"det 0, if 3, small 1, end; end; end", api.ErrJoin2, 2},
		{"det 0, if 4, small 1, store 0, end; end; end", api.OK, 0},
		// A number from here, a number from there; another kind.
		{"det 0, if 4, small 1, jump 5, small 2, store 0, end; end; end", api.OK, 0},
		{"det 0, if 4, small 1, jump 5, truth 1, store 0, end; end; end", api.ErrJoin2, 4},
		{"det 0, if 4, truth 1, jump 5, truth 0, if 6, end; end; end", api.OK, 0},
		{"det 0, if 4, truth 1, jump 5, small 0, if 6, end; end; end", api.ErrJoin2, 4},
		// Jumps that meet: the later one finds it.
		{"det 0, if 4, small 1, jump 7, truth 1, jump 7, end, store 0, end; end; end", api.ErrJoin2, 5},
		{"det 0, if 4, small 1, jump 6, small 2, jump 6, store 0, end; end; end", api.OK, 0},
		// The kinds below the topmost word count too.
		{"det 0, if 5, small 1, truth 1, jump 7, truth 1, truth 1, and, if 9, end; end; end", api.ErrJoin2, 6},
		{"det 0, if 5, truth 0, truth 1, jump 7, truth 1, truth 1, and, if 9, end; end; end", api.OK, 0},
		// InAnd and InOr: the truth stays where they jump, and goes where they go on.
		{"det 0, andjump 3, det 1, if 4, end; end; end", api.OK, 0},
		{"det 0, orjump 3, det 1, if 4, end; end; end", api.OK, 0},
		{"det 0, andjump 3, small 1, if 4, end; end; end", api.ErrJoin2, 2},
		{"det 0, orjump 4, det 1, jump 5, if 5, end; end; end", api.ErrJoin2, 4},
		{"det 0, orjump 3, end, if 4, end; end; end", api.OK, 0},
		{"det 0, orjump 2, end; end; end", api.ErrJoin2, 1},
		{"truth 1, truth 1, andjump 3, if 4, end; end; end", api.ErrJoin2, 2},
		// Going on comes first: the place behind has it from there, and a jump that comes with another is refused there.
		{"det 0, det 1, orjump 4, if 5, if 6, end, end; end; end", api.ErrJoin2, 3},
		{"end; det 0, orjump 4, pick 1, if 5, end; end; end; end; end", api.OK, 0},
		{"end; end; det 0, andjump 5, small 1, store 0, end", api.ErrJoin2, 4},
	})
}

// P12.1: the first place is told, and what stands behind it isn't looked at.
func TestFirstPlace(t *testing.T) {
	t.Parallel()
	verifyRows(t, rich, []row{
		{"store 9, store 9; end; end", api.ErrIndex, 0},
		{"end, end; pick 0; store 0", api.ErrDead, 1},
		{"end; pick 0; store 0", api.ErrIndex, 1},
		{"end; end; store 0", api.ErrStack, 2},
		{"end; end; end; end; pick 1; store 0", api.ErrIndex, 4},
		{"end; end; end; end; pick 0; store 0", api.ErrStack, 5},
		{"det 0, if 3, small 1, store 9; end; end", api.ErrJoin2, 2},
	})
}

// P12.1: a stack of great height, with what is on it known to the last word.
func TestDeepStacks(t *testing.T) {
	t.Parallel()
	for _, height := range []int{1, 2, 62, 63, 64, 65, 127, 128, 129, 1000, 4096} {
		for _, odd := range []int{0, 1, 62, 63, 64, 65, 126, 127, 128, height - 2, height - 1} {
			if odd < 0 || odd >= height {
				continue
			}
			stack := strings.Repeat("n", odd) + "t" + strings.Repeat("n", height-1-odd)
			m := twice(stack, stack)
			if f := load.Verify(m); f != (api.Fault{}) {
				t.Fatalf("height %d, a truth at %d: %v", height, odd, f)
			}
			if list := heights(t, m, 0); slices.Max(list) != height {
				t.Fatalf("height %d: %d", height, slices.Max(list))
			}
			m.Depth--
			if f := load.Verify(m); f.Code != api.ErrStack {
				t.Fatalf("height %d, Depth one less: %v", height, f)
			}
			meets := at(api.ErrJoin2, 2*height+2)
			if f := load.Verify(twice(stack, strings.Repeat("n", height))); f != meets {
				t.Fatalf("height %d, a truth at %d meets numbers: %v", height, odd, f)
			}
			if f := load.Verify(twice(strings.Repeat("n", height), stack)); f != meets {
				t.Fatalf("height %d, numbers meet a truth at %d: %v", height, odd, f)
			}
			if f := load.Verify(twice(stack+"n", stack)); f != at(api.ErrJoin2, 2*height+3) {
				t.Fatalf("height %d meets one that is higher: %v", height, f)
			}
			if f := load.Verify(twice(stack, stack[1:])); f != at(api.ErrJoin2, 2*height+1) {
				t.Fatalf("height %d meets one that is less high: %v", height, f)
			}
		}
	}
}

// twice is an image that puts one stack or the other, brings them together, and takes the second one off.
func twice(first, second string) api.Image {
	m := rich("end; end; end")
	m.Code = []api.Instr{instruction("det 0"), {Op: api.InIf, Arg: int32(len(first) + 3)}}
	kinds := map[rune]api.Instr{'n': instruction("small 1"), 't': instruction("truth 1")}
	for _, letter := range first {
		m.Code = append(m.Code, kinds[letter])
	}
	m.Code = append(m.Code, api.Instr{Op: api.InJump, Arg: int32(len(first) + len(second) + 3)})
	for _, letter := range second {
		m.Code = append(m.Code, kinds[letter])
	}
	for i := len(second) - 1; i >= 0; i-- {
		if second[i] == 't' {
			m.Code = append(m.Code, api.Instr{Op: api.InIf, Arg: int32(len(m.Code) + 1)})
		} else {
			m.Code = append(m.Code, instruction("store 0"))
		}
	}
	m.Code = append(m.Code, api.Instr{Op: api.InEnd}, api.Instr{Op: api.InEnd}, api.Instr{Op: api.InEnd})
	m.Slots = []api.Slot{{Tick: len(m.Code) - 2, Leave: len(m.Code) - 1}}
	m.Depth = max(len(first), len(second))
	return m
}

// P12.1: all Tick sections of up to four instructions of a few kinds, against the model.
func TestAllShortSections(t *testing.T) {
	t.Parallel()
	var kinds []api.Instr
	for _, text := range []string{"end", "small 1", "truth 1", "not", "lt", "eq", "store 0", "pick 1", "run 0"} {
		kinds = append(kinds, instruction(text))
	}
	for _, word := range []string{"if", "jump", "andjump"} {
		for place := 2; place <= 5; place++ {
			kinds = append(kinds, api.Instr{Op: codes[word], Arg: int32(place)})
		}
	}
	seen := map[api.Errno]int{}
	for length := 1; length <= 4; length++ {
		m := plain("end; end; end; end; end; end")
		m.Slots = []api.Slot{{Tick: 1, Leave: length + 1}, {Id: 1, Enter: length + 2, Tick: length + 3, Leave: length + 4}}
		m.Code = slices.Repeat([]api.Instr{{Op: api.InEnd}}, length+5)
		count := 1
		for range length {
			count *= len(kinds)
		}
		for n := range count {
			for i, rest := 0, n; i < length; i, rest = i+1, rest/len(kinds) {
				m.Code[1+i] = kinds[rest%len(kinds)]
			}
			f := load.Verify(m)
			if want := model(m); f != want {
				t.Fatalf("%s: %v, want %v", told(m), f, want)
			}
			seen[f.Code]++
		}
	}
	for _, code := range []api.Errno{api.OK, api.ErrDead, api.ErrStack, api.ErrSort, api.ErrJump, api.ErrEnd, api.ErrJoin2} {
		if seen[code] < 20 {
			t.Errorf("%d is told %d times", code, seen[code])
		}
	}
}

// P12.1, P12.2: images at random, most of them with something wrong, against the model.
func TestAtRandom(t *testing.T) {
	t.Parallel()
	r := rand.New(rand.NewSource(1))
	seen := map[api.Errno]int{}
	for range 8000 {
		m := anyWild(r)
		for range r.Intn(3) {
			m = twisted(r, m)
		}
		f, want := load.Verify(m), model(m)
		if f != want {
			t.Fatalf("%s: %v, want %v", told(m), f, want)
		}
		seen[f.Code]++
		if f != (api.Fault{}) {
			continue
		}
		for _, entry := range modelEntries(m) {
			if list := heights(t, m, entry); !slices.Equal(list, modelHeights(m, entry)) {
				t.Fatalf("%s: Heights(%d) = %v", told(m), entry, list)
			}
		}
	}
	for _, code := range []api.Errno{api.OK, api.ErrRom, api.ErrSection, api.ErrDead, api.ErrPick, api.ErrIndex, api.ErrStack, api.ErrSort, api.ErrJump, api.ErrEnd, api.ErrJoin2} {
		if seen[code] < 30 {
			t.Errorf("%d is told %d times", code, seen[code])
		}
	}
	if seen[api.ErrOpcode] > 0 {
		t.Error("ErrOpcode is told")
	}
}
