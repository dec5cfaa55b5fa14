package driver_test

import (
	"bytes"
	"fmt"
	"math/rand"
	"slices"
	"strings"
	"testing"

	"junction/api"
	"junction/driver"
	"junction/load"
	"junction/pretty"
	"junction/safety"
	"junction/sim"
	"junction/vm"
)

// anySource is a plan's text that nothing refuses, with the plan.
func anySource(t *testing.T, r *rand.Rand) (string, api.Plan) {
	t.Helper()
	p := anyPlan(r, 0, 0)
	src := printed(t, p)
	if _, f := driver.Compile(src); f != (api.Fault{}) {
		t.Fatalf("%v of %s", f, src)
	}
	return src, p
}

// P14.7: the entries of vm.Run over the bytes of Compile; of a text that is refused the fault alone.
func TestPlay(t *testing.T) {
	t.Parallel()
	ins := make([]uint64, 24)
	ins[3] = 2
	list, f := driver.Play(smallPlan, ins)
	text, _ := driver.Trace(list)
	if want := "0-7 rrr -\n8-9 lrr -\n10-16 grr 0\n17-19 arr -\n20 rrr -\n21 rrg -\n22-23 rgg 2\n"; f != (api.Fault{}) || text != want {
		t.Errorf("%v, %q, want %q", f, text, want)
	}
	for _, none := range [][]uint64{nil, {}} {
		if list, f := driver.Play(smallPlan, none); f != (api.Fault{}) || len(list) != 0 {
			t.Errorf("%v, %v of no inputs", list, f)
		}
	}
	for _, c := range slices.Concat(refused, found) {
		src, where := marked(c.text)
		if list, f := driver.Play(src, ins); f != (api.Fault{Code: c.code, At: where}) || len(list) != 0 {
			t.Errorf("%.2000s: %v, %v, want %d at %v", src, list, f, c.code, where)
		}
	}
	b, _ := driver.Compile(smallPlan)
	long := anyIns(rand.New(rand.NewSource(147)), 70000)
	want, _ := vm.Run(b, long)
	if list, f := driver.Play(smallPlan, long); f != (api.Fault{}) || !slices.Equal(list, want) {
		t.Errorf("%v, %d entries of %d", f, len(list), len(long))
	}
}

// P14.7, W1: what is compiled runs as it is meant: the machine of the bytes, tick by tick, and the typed plan of the source. W2: all that it shows is safe.
func TestRuns(t *testing.T) {
	t.Parallel()
	r := rand.New(rand.NewSource(101))
	moves := 0
	for range 1200 {
		src, _ := anySource(t, r)
		ins := anyIns(r, 90)
		x, _ := driver.Analyze(src)
		b, _ := driver.Compile(src)
		list, f := driver.Play(src, ins)
		want, errno := sim.Run(x, ins)
		ran, _ := vm.Run(b, ins)
		if f != (api.Fault{}) || errno != api.OK || !slices.Equal(list, want) || !slices.Equal(list, ran) {
			t.Fatalf("%v, %d: %v, want %v of %s", f, errno, list, want, src)
		}
		if what := danger(x.Tables, list); what != "" {
			t.Fatalf("%s: %v of %s", what, list, src)
		}
		m, f := load.Load(b)
		if f != (api.Fault{}) {
			t.Fatalf("Load: %v of %s", f, src)
		}
		machine, _ := vm.New(m)
		plan, _ := sim.New(x)
		for i, in := range ins {
			machine.Tick(in)
			plan.Tick(in)
			if !same(machine.State(), plan.State()) {
				t.Fatalf("tick %d: %+v, want %+v of %s", i, machine.State(), plan.State(), src)
			}
		}
		for i := range list[1:] {
			if list[i].Stage != -1 && list[i+1].Stage == -1 {
				moves++
			}
		}
	}
	if moves < 1000 {
		t.Errorf("only %d moves", moves)
	}
}

// W2: the judge of runs finds what is not safe.
func TestDanger(t *testing.T) {
	t.Parallel()
	x, _ := driver.Analyze(smallPlan)
	list, _ := driver.Play(smallPlan, slices.Concat(make([]uint64, 20), []uint64{2}, make([]uint64, 60)))
	if what := danger(x.Tables, list); what != "" {
		t.Fatal(what)
	}
	for i := range list {
		for g := range x.Tables.Groups {
			for _, letter := range "la" {
				worse := slices.Clone(list)
				heads := []byte(worse[i].Heads)
				heads[g] = byte(letter)
				worse[i].Heads = string(heads)
				if worse[i] != list[i] && danger(x.Tables, worse) == "" {
					t.Errorf("tick %d: %v is as safe as %v", i, worse[i], list[i])
				}
			}
		}
	}
}

// always is the plan in which each stage is left as soon as the gate is open: its last guard is true.
func always(p api.Plan) api.Plan {
	p = copied(p)
	for i := range p.Decls {
		if list := p.Decls[i].Stage.Nexts; len(list) > 0 {
			list[len(list)-1].When = truth(1)
		}
	}
	return p
}

// W5: a plan gets on: stages are left when they can be, and moves end.
func TestGetsOn(t *testing.T) {
	t.Parallel()
	r := rand.New(rand.NewSource(105))
	left := 0
	for range 1500 {
		_, p := anySource(t, r)
		src := printed(t, always(p))
		x, f := driver.Analyze(src)
		bound, errno := safety.Bound(x)
		list, _ := driver.Play(src, anyIns(r, 120))
		if f != (api.Fault{}) || errno != api.OK {
			t.Fatalf("%v, %d of %s", f, errno, src)
		}
		bound = max(bound, 1)
		// The move to the start begins behind tick 0 at the earliest.
		since, stage := 0, -1
		for i, e := range list {
			if e.Stage != stage {
				since, stage = i, e.Stage
				left++
			}
			most := bound - 1
			if since == 0 {
				most = bound
			}
			if stage >= 0 {
				most = longestGreen(x, stage)
			}
			if ticks := i - since + 1; ticks > most {
				t.Fatalf("tick %d: %d ticks of stage %d, at most %d, of %s", i, ticks, stage, most, src)
			}
		}
	}
	if left < 10000 {
		t.Errorf("only %d stages", left)
	}
}

// longestGreen is 1 or the greatest minimum green of a stage's groups.
func longestGreen(x api.Typed, stage int) int {
	most := 1
	for g, row := range x.Tables.Groups {
		if x.Stages[stage].Green>>g&1 == 1 {
			most = max(most, row.Min)
		}
	}
	return most
}

// W3, P14.2, P14.3: a plan and its print have the same image, or the same error; so has the plan with other places.
func TestPrinting(t *testing.T) {
	t.Parallel()
	r := rand.New(rand.NewSource(103))
	codes := map[api.Errno]int{}
	for range 2500 {
		p := anyPlan(r, pick(r, 0, 0, 100, 400), pick(r, 0, 10, 40))
		b, f := driver.Build(p)
		codes[f.Code]++
		again, g := driver.Compile(printed(t, p))
		if f.Code != g.Code || !bytes.Equal(b, again) {
			t.Fatalf("%v, %x, printed %v, %x of %+v", f, b, g, again, p)
		}
		other, h := driver.Build(moved(p, func() api.Pos { return at(r.Intn(5)-2, r.Intn(99)) }))
		if f.Code != h.Code || !bytes.Equal(b, other) {
			t.Fatalf("%v, %x, with other places %v, %x of %+v", f, b, h, other, p)
		}
		// The layout of a text is nothing to its image either.
		text, _ := pretty.Print(p)
		loose := strings.ReplaceAll(strings.ReplaceAll(text, "\n", " \r\n# x\n\t"), " ", "  ")
		if third, h := driver.Compile(loose); f.Code != h.Code || !bytes.Equal(b, third) {
			t.Fatalf("%v, %x, laid out anew %v, %x of %s", f, b, h, third, loose)
		}
	}
	if codes[api.OK] < 500 || len(codes) < 10 {
		t.Errorf("%v", codes)
	}
}

// fullPlan has as much of everything as there may be: groups all in conflict with one another, nexts, statements, nodes, constants that fit in no instruction.
func fullPlan() api.Plan {
	p := api.Plan{Name: "p"}
	for i := range 64 {
		p.Decls = append(p.Decls, api.Decl{Kind: api.DeGroup, Name: fmt.Sprint("g", i), Sort: api.Vehicle, N: [3]int32{5, 3, 3}})
		for _, kind := range []int{api.DeDetector, api.DeTimer, api.DeCounter, api.DeVar} {
			p.Decls = append(p.Decls, api.Decl{Kind: kind, Name: fmt.Sprint("....dtcv"[kind:kind+1], i)})
		}
	}
	for i := range 64 {
		for j := range i {
			p.Decls = append(p.Decls, api.Decl{Kind: api.DeConflict, Name: fmt.Sprint("g", i), With: fmt.Sprint("g", j), N: [3]int32{3, 4}})
		}
	}
	p.Decls = append(p.Decls, api.Decl{Kind: api.DeStart, Name: "s0"})
	for i := range 256 {
		s := api.Stage{Green: []string{fmt.Sprint("g", i%64)}}
		for j := range 16 {
			s.Nexts = append(s.Nexts, api.Next{To: fmt.Sprint("s", (i+j+1)%256), When: []api.Node{{Op: api.OpName, Name: fmt.Sprint("d", j)}}})
			set := api.Stmt{Kind: api.StSet, Name: fmt.Sprint("v", j), Expr: []api.Node{{Op: api.OpName, Name: fmt.Sprint("t", i%64)}, {Op: api.OpInt, Val: int32(1000 + 16*i + j)}, {Op: api.OpMul}}}
			list := []*[]api.Stmt{&s.Enter, &s.During, &s.Leave}[j%3]
			*list = append(*list, set)
		}
		p.Decls = append(p.Decls, api.Decl{Kind: api.DeStage, Name: fmt.Sprint("s", i), Stage: s})
	}
	return p
}

// P14.4, W9: there is room for a plan at all limits; one more of anything is refused by check.
func TestFull(t *testing.T) {
	t.Parallel()
	p := fullPlan()
	b, f := driver.Build(p)
	m, g := load.Load(b)
	if f != (api.Fault{}) || g != (api.Fault{}) || len(m.Slots) != 256 || len(m.Tables.Conflicts) != 2016 || len(m.Pool) < 4000 {
		t.Fatalf("Build: %v, Load: %v, %d slots, %d constants", f, g, len(m.Slots), len(m.Pool))
	}
	x, _ := modelTyped(p)
	ins := anyIns(rand.New(rand.NewSource(109)), 300)
	want, _ := sim.Run(x, ins)
	if list, f := vm.Run(b, ins); f != (api.Fault{}) || !slices.Equal(list, want) {
		t.Errorf("%v: %.300v, want %.300v", f, list, want)
	}
	last := len(p.Decls) - 1
	for i, change := range []func(s *api.Stage){
		func(s *api.Stage) { s.Nexts = append(s.Nexts, s.Nexts[0]) },
		func(s *api.Stage) { s.Leave = append(s.Leave, api.Stmt{Kind: api.StRun, Name: "t0"}) },
		func(s *api.Stage) { s.Nexts[15].When = append(s.Nexts[15].When, api.Node{Op: api.OpNot}) },
	} {
		more := copied(p)
		change(&more.Decls[last].Stage)
		want := []api.Errno{api.ErrMany, api.ErrMany, api.ErrSize}[i]
		if b, f := driver.Build(more); f != (api.Fault{Code: want}) || len(b) > 0 {
			t.Errorf("change %d: %v, %d bytes, want %d", i, f, len(b), want)
		}
	}
	for _, kind := range []int{api.DeGroup, api.DeDetector, api.DeTimer, api.DeCounter, api.DeVar, api.DeStage} {
		more := api.Decl{Kind: kind, Name: "x", At: at(5, 6)}
		if kind == api.DeGroup {
			more.Sort, more.N = api.Vehicle, [3]int32{5, 3, 0}
		}
		if b, f := driver.Build(api.Plan{Name: "p", Decls: append(slices.Clone(p.Decls), more)}); f != fault(api.ErrMany, 5, 6) || len(b) > 0 {
			t.Errorf("kind %d: %v, %d bytes", kind, f, len(b))
		}
	}
}

// P14.3, W9: a text of MaxSource bytes is taken, one byte more is not.
func TestLongestSource(t *testing.T) {
	t.Parallel()
	src := smallPlan + strings.Repeat(" ", 65536-len(smallPlan))
	checkSource(t, src, api.Fault{})
	want, _ := driver.Compile(smallPlan)
	if b, _ := driver.Compile(src); !bytes.Equal(b, want) {
		t.Errorf("%x, want %x", b, want)
	}
	checkSource(t, src+" ", api.Fault{Code: api.ErrLong})
	// A plan of so many bytes, all of them in use.
	var b strings.Builder
	b.WriteString("plan p { var v = 0; start s; stage t { green; next s when true; } stage s { green; during { ")
	for b.Len() < 65536-50 {
		fmt.Fprintf(&b, "v = v * %d + 1; ", 100000+b.Len())
	}
	b.WriteString("} next t when v > 9; } }")
	text := b.String() + strings.Repeat("\n", 65536-b.Len())
	checkSource(t, text, api.Fault{})
	checkPhases(t, text)
}
