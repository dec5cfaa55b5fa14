package load_test

import (
	"fmt"
	"math/rand"
	"slices"
	"strings"
	"testing"
	"time"

	"junction/api"
	"junction/load"
	"junction/opt"
)

// twoPlan is chapter 8's example.
const twoPlan = `plan two {
	group a vehicle min 2 amber 1;
	group b pedestrian min 3 amber 0;
	conflict a b 2 1;
	detector push latch;
	counter walks;
	start cars;
	stage cars { green a; next walk when push; }
	stage walk { green b; enter { count walks; } during { if red(a) { clear push; } } next cars when elapsed >= 2; }
}`

// smallPlan is DOC.md's example.
const smallPlan = `plan small {
	group main vehicle min 7 amber 3 lead 2;
	group side vehicle min 5 amber 3;
	group walk pedestrian min 6 amber 4;
	conflict main side 5 6;
	conflict main walk 4 8;
	detector loop hold 2;
	detector push latch;
	timer rest;
	counter calls;
	var longest = 20;
	cond due = elapsed >= longest or loop and elapsed > 9;
	start flow;
	stage flow { green main; enter { reset rest; run rest; } next cross when push; next turn when due; }
	stage turn { green side; next flow when not loop or elapsed >= 12; }
	stage cross { green side, walk; enter { count calls; clear push; } next flow when elapsed >= 6; }
}`

// fullPlan has as much of everything as there may be: 16384 nodes in 4096 statements and 4096 nexts of 256 stages.
func fullPlan() api.Typed {
	m := fullMaker(rand.New(rand.NewSource(5)))
	x := m.things()
	word := int32(1000)
	for i := range 256 {
		s := api.TStage{Name: fmt.Sprint("s", i), Id: i, Green: ^uint64(i)}
		for k := range 16 {
			set := api.Stmt{Kind: api.StSet, Ix: k, Expr: over(api.OpAdd, leaf(api.OpInt, word), leaf(api.OpInt, word+1))}
			word += 2
			list := pick(m.r, &s.Enter, &s.During, &s.Leave)
			*list = append(*list, set)
			s.Nexts = append(s.Nexts, api.TNext{To: (i + k + 1) % 256, When: leaf(api.OpDet, int32(k))})
		}
		x.Stages = append(x.Stages, s)
	}
	return x
}

// P12.5: a plan's image is verified, and so is what is read of its bytes; what the optimizer makes of the plan too.
func TestPlansAreVerified(t *testing.T) {
	t.Parallel()
	r := rand.New(rand.NewSource(3))
	plans := []api.Typed{resolved(t, smallPlan), resolved(t, twoPlan), resolved(t, "plan p { start s; stage s { green; } }"), fullPlan()}
	for range 800 {
		plans = append(plans, anyTyped(r))
	}
	for _, x := range plans {
		smaller, _ := opt.Plan(x)
		for _, x := range []api.Typed{x, smaller} {
			m := generated(t, x)
			if f := load.Verify(m); f != (api.Fault{}) {
				t.Fatalf("%v in the image of %.9000s", f, fmt.Sprintf("%+v", x))
			}
			if read, f := load.Load(encoded(t, m)); f != (api.Fault{}) || !same(read, m) {
				t.Fatalf("%v of the bytes of the image of %.9000s", f, fmt.Sprintf("%+v", x))
			}
			if high := highest(t, m); high != m.Depth {
				t.Fatalf("Depth %d, but %d at most: %s", m.Depth, high, told(m))
			}
		}
	}
}

// highest is the greatest height in an image.
func highest(t *testing.T, m api.Image) int {
	t.Helper()
	high := 0
	for _, entry := range modelEntries(m) {
		if len(m.Code) > 5000 && entry > 100 {
			break // the first sections of a great image are like the others
		}
		high = max(high, slices.Max(heights(t, m, entry)))
	}
	return high
}

// verified is images in which nothing is wrong, of plans and wild ones.
func verified(t *testing.T, r *rand.Rand, count int) []api.Image {
	t.Helper()
	list := []api.Image{generated(t, resolved(t, smallPlan)), plain("end; end; end")}
	for len(list) < count {
		list = append(list, anyWild(r), generated(t, anyTyped(r)))
	}
	for _, m := range list {
		if f := load.Verify(m); f != (api.Fault{}) {
			t.Fatalf("%s: %v", told(m), f)
		}
	}
	return list
}

// P12.6: more depth and more of what the code may choose from is nothing wrong, and the heights stay.
func TestMoreIsVerified(t *testing.T) {
	t.Parallel()
	r := rand.New(rand.NewSource(4))
	for _, m := range verified(t, r, 600) {
		more := copied(m)
		more.Depth = pick(r, m.Depth, min(m.Depth+1, 65535), m.Depth+r.Intn(65536-m.Depth), 65535)
		more.Pool = append(more.Pool, make([]int32, pick(r, 0, 1, 16384-len(m.Pool)))...)
		more.Vars = append(more.Vars, make([]int32, pick(r, 0, 1, 64-len(m.Vars)))...)
		more.Timers, more.Counters = pick(r, m.Timers, m.Timers+1, 64), pick(r, m.Counters, m.Counters+1, 64)
		for i := range pick(r, 0, 1, 64-len(m.Dets)) {
			more.Dets = append(more.Dets, api.Det{Name: fmt.Sprint("more", i)})
		}
		if f := load.Verify(more); f != (api.Fault{}) {
			t.Fatalf("%s, with more %s: %v", told(m), told(more), f)
		}
		entry := pick(r, modelEntries(m)...)
		if list := heights(t, more, entry); !slices.Equal(list, heights(t, m, entry)) {
			t.Fatalf("%s, with more: Heights(%d) = %v", told(m), entry, list)
		}
	}
}

// P12.6, G8: more than an image may have is refused.
func TestTooMuchIsRefused(t *testing.T) {
	t.Parallel()
	for name, grow := range map[string]func(*api.Image){
		"depth":    func(m *api.Image) { m.Depth = 65536 },
		"pool":     func(m *api.Image) { m.Pool = make([]int32, 16385) },
		"vars":     func(m *api.Image) { m.Vars = make([]int32, 65) },
		"timers":   func(m *api.Image) { m.Timers = 65 },
		"counters": func(m *api.Image) { m.Counters = 65 },
		"dets":     func(m *api.Image) { m.Dets = make([]api.Det, 65) },
	} {
		m := rich("end; end; end")
		grow(&m)
		if f := load.Verify(m); f != at(api.ErrRom, 0) {
			t.Errorf("%s: %v", name, f)
		}
	}
}

// P12.6: a depth below the greatest height is wrong, the greatest height itself is not.
func TestLessDepthIsRefused(t *testing.T) {
	t.Parallel()
	r := rand.New(rand.NewSource(5))
	tried := 0
	for _, m := range verified(t, r, 400) {
		high := highest(t, m)
		m.Depth = high
		if f := load.Verify(m); f != (api.Fault{}) {
			t.Fatalf("%s: %v", told(m), f)
		}
		for _, depth := range []int{0, high / 2, high - 1} {
			if depth < 0 || depth >= high {
				continue
			}
			m.Depth = depth
			f := load.Verify(m)
			if f.Code != api.ErrStack || f != model(m) {
				t.Fatalf("%s: %v", told(m), f)
			}
			tried++
		}
	}
	if tried < 400 {
		t.Errorf("only %d depths were too small", tried)
	}
}

// walker runs a section in any way. It knows of each word on the stack what it is, and nothing of its worth.
type walker struct {
	m     api.Image
	r     *rand.Rand
	stack string
}

// step runs an instruction and answers where it goes, or -1.
func (w *walker) step(p int) int {
	in := w.m.Code[p]
	row := takes[in.Op]
	before := w.stack
	w.stack = before[:len(before)-len(row[0])] + row[1]
	jump := w.r.Intn(2) == 0
	switch in.Op {
	case api.InEnd, api.InPick:
		return -1
	case api.InJump:
		return int(in.Arg)
	case api.InIf:
		if jump {
			return int(in.Arg)
		}
	case api.InAnd, api.InOr:
		if jump {
			w.stack = before
			return int(in.Arg)
		}
	}
	return p + 1
}

// P12.7: whatever way a section is run, Heights has told it, and it ends.
func TestEveryWayIsTold(t *testing.T) {
	t.Parallel()
	r := rand.New(rand.NewSource(6))
	picked, jumped := 0, 0
	for _, m := range verified(t, r, 500) {
		entries := append(modelEntries(m), len(m.Code))
		for i, entry := range entries[:len(entries)-1] {
			told := heights(t, m, entry)
			for range 6 {
				end, steps := walk(t, &walker{m: m, r: r}, entry, entries[i+1], told)
				if m.Code[end].Op == api.InPick {
					picked++
				}
				if steps < entries[i+1]-entry {
					jumped++
				}
			}
		}
	}
	if picked < 300 || jumped < 300 {
		t.Errorf("%d picked, %d jumped over something", picked, jumped)
	}
}

// walk runs a section, from its entry up to the place behind it, and answers where it has ended, and behind how many steps.
func walk(t *testing.T, w *walker, entry, end int, heights []int) (int, int) {
	t.Helper()
	for p, steps := entry, 1; ; steps++ {
		if p < entry || p >= end || heights[p] != len(w.stack) || len(w.stack) > w.m.Depth || steps > end-entry {
			t.Fatalf("%s: at %d behind %d steps from %d, with %q on the stack, told %v", told(w.m), p, steps, entry, w.stack, heights)
		}
		in := w.m.Code[p]
		needs := takes[in.Op][0]
		top := w.stack[max(0, len(w.stack)-len(needs)):]
		if needs == "xx" && top != "nn" && top != "tt" || needs != "xx" && top != needs {
			t.Fatalf("%s: at %d %q is on top", told(w.m), p, top)
		}
		next := w.step(p)
		if next == -1 {
			if w.stack != "" || in.Op != api.InEnd && in.Op != api.InPick {
				t.Fatalf("%s: ends at %d with %q on the stack", told(w.m), p, w.stack)
			}
			return p, steps
		}
		p = next
	}
}

// P12.7: each place is of one section, and come to in some way.
func TestEveryPlaceIsOfOneSection(t *testing.T) {
	t.Parallel()
	r := rand.New(rand.NewSource(7))
	for _, m := range verified(t, r, 200) {
		times := make([]int, len(m.Code))
		for _, entry := range modelEntries(m) {
			for p, height := range heights(t, m, entry) {
				if height >= 0 {
					times[p]++
				}
			}
		}
		if slices.Max(times) != 1 || slices.Min(times) != 1 {
			t.Fatalf("%s: %v", told(m), times)
		}
	}
}

// great are images of as many instructions as there may be, and what is wrong with them.
func great() map[string]struct {
	m    api.Image
	want api.Fault
} {
	type one = struct {
		m    api.Image
		want api.Fault
	}
	list := map[string]one{}
	add := func(name string, depth int, want api.Fault, body ...api.Instr) {
		m := rich("end; end; end")
		m.Depth = depth
		m.Code = append(body, api.Instr{Op: api.InEnd}, api.Instr{Op: api.InEnd}, api.Instr{Op: api.InEnd})
		m.Slots = []api.Slot{{Tick: len(m.Code) - 2, Leave: len(m.Code) - 1}}
		list[name] = one{m, want}
	}
	repeat := func(text string, count int) []api.Instr {
		return slices.Repeat([]api.Instr{instruction(text)}, count)
	}
	add("acts", 0, api.Fault{}, repeat("run 0", 65533)...)
	add("one more", 0, at(api.ErrRom, 0), repeat("run 0", 65534)...)
	add("pushes", 65535, at(api.ErrStack, 65533), repeat("small 1", 65533)...)
	add("pushes to the depth", 65532, at(api.ErrStack, 65532), repeat("small 1", 65533)...)
	high := slices.Concat(repeat("small 1", 32766), repeat("store 0", 32766))
	add("high", 32766, api.Fault{}, slices.Clone(high)...)
	add("too high", 32765, at(api.ErrStack, 32765), slices.Clone(high)...)
	var near []api.Instr
	for i := range 32766 {
		near = append(near, instruction("truth 1"), api.Instr{Op: api.InIf, Arg: int32(2*i + 2)})
	}
	add("jumps to the next place", 1, api.Fault{}, near...)
	// A stack of 20000 words, and 8000 jumps that are all under way at once, each to a place of its own, from which they go on one by one.
	const words, jumps = 20000, 8000
	far := repeat("truth 1", words)
	for i := range jumps {
		far = append(far, instruction("truth 1"), api.Instr{Op: api.InIf, Arg: int32(words + 2*jumps + i)})
	}
	for i := range jumps {
		far = append(far, api.Instr{Op: api.InJump, Arg: int32(words + 2*jumps + i + 1)})
	}
	add("jumps over all", words+1, at(api.ErrStack, words+3*jumps), slices.Clone(far)...)
	far = append(append(far, repeat("and", words-1)...), api.Instr{Op: api.InIf, Arg: int32(2*words + 3*jumps)})
	add("jumps over all, and all taken", words+1, api.Fault{}, far...)
	return list
}

// P12.4: the greatest images take no more than going over them once does.
func TestGreatImages(t *testing.T) {
	t.Parallel()
	for name, c := range great() {
		begin := time.Now()
		if f := load.Verify(c.m); f != c.want {
			t.Errorf("%s: %v, want %v", name, f, c.want)
		}
		list, f := load.Heights(c.m, 0)
		if f != c.want || f == (api.Fault{}) && len(list) != len(c.m.Code) {
			t.Errorf("%s: Heights: %d of them, %v, want %v", name, len(list), f, c.want)
		}
		if took := time.Since(begin); took > 20*time.Second {
			t.Errorf("%s takes %v", name, took)
		}
	}
}

// P12.4: a jump whose way has met another one costs no memory: the test runs alone, so that it counts its own.
func TestJumpsTakeNoMemory(t *testing.T) {
	m := great()["jumps to the next place"].m
	if count := testing.AllocsPerRun(3, func() { load.Verify(m) }); count > 1000 {
		t.Errorf("%.0f pieces of memory for 32766 jumps", count)
	}
}

// P12.1, G8: as many slots as there may be.
func TestAllSlots(t *testing.T) {
	t.Parallel()
	m := rich(strings.Repeat("end; pick 255; end; ", 255) + "end; pick 0; end")
	if f := load.Verify(m); f != (api.Fault{}) {
		t.Errorf("256 slots: %v", f)
	}
	m.Code[3*255+1].Arg = 255
	if f := load.Verify(m); f != at(api.ErrIndex, 3*255+1) {
		t.Errorf("the last slot picks itself: %v", f)
	}
}
