package driver_test

import (
	"bytes"
	"fmt"
	"math/rand"
	"reflect"
	"slices"
	"strings"
	"sync"
	"testing"
	"time"

	"junction/api"
	"junction/driver"
	"junction/pretty"
)

// given is what calls are made with.
type given struct {
	Plan api.Plan
	Src  string
	Ins  []uint64
	List []api.Entry
	Text string
	Told api.Fault
}

// answer is all that the calls answer.
type answer struct {
	Built, Compiled []byte
	Typed           api.Typed
	Played, Traced  []api.Entry
	Inputs          []uint64
	Words           [3]string
	Faults          [4]api.Fault
	Errnos          [3]api.Errno
}

func calls(g given) answer {
	var a answer
	a.Built, a.Faults[0] = driver.Build(g.Plan)
	a.Compiled, a.Faults[1] = driver.Compile(g.Src)
	a.Typed, a.Faults[2] = driver.Analyze(g.Src)
	a.Played, a.Faults[3] = driver.Play(g.Src, g.Ins)
	a.Words[0], a.Errnos[0] = driver.Trace(g.List)
	a.Traced, a.Errnos[1] = driver.Retrace(g.Text)
	a.Inputs, a.Errnos[2] = driver.Inputs(g.Text)
	a.Words[1], a.Words[2] = driver.Phase(g.Told), driver.Report(g.Told)
	return a
}

// wildThings are right, wrong in one thing, or nothing at all.
func wildThings(r *rand.Rand) given {
	g := given{Plan: anyPlan(r, pick(r, 0, 0, 100), pick(r, 0, 20)), Ins: anyIns(r, r.Intn(20)), List: anyEntries(r)}
	g.Src, _ = pretty.Print(g.Plan)
	g.Text, _ = modelTrace(anyEntries(r))
	if r.Intn(2) == 0 {
		g.Text = strings.Repeat("1 3*f0 ", r.Intn(9))
	}
	for range pick(r, 0, 1, 1, 3) {
		switch r.Intn(6) {
		case 0:
			g.Plan = spoilt(r, g.Plan)
		case 1:
			g.Src = smudged(r, g.Src, "\x00", "}", "\xff\xfe", "9999999999", "-")
		case 2:
			g.Text = smudged(r, g.Text, "\x00", "-", "\xff\xfe", "9999999999", "\n")
		case 3:
			g.List = append(g.List, api.Entry{Heads: pick(r, "", "x", "\xff", "rrr"), Stage: pick(r, -2, 0, 1<<40)})
		case 4:
			b := make([]byte, r.Intn(200))
			r.Read(b)
			g.Src, g.Text = string(b), string(b)
		case 5:
			g.Plan = api.Plan{Name: pick(r, "", "p"), Decls: make([]api.Decl, r.Intn(3))}
		}
	}
	g.Told = api.Fault{Code: api.Errno(pick(r, r.Intn(220), int(r.Uint64()))), At: at(r.Intn(3)-1, pick(r, 0, int(r.Uint64())))}
	return g
}

// G1 to G3, G5: whatever is given, no call panics, keeps or changes anything; a refusal has nothing beside it.
func TestGarbage(t *testing.T) {
	t.Parallel()
	seen := map[string]int{}
	for seed := range int64(3000) {
		// Of one seed come the same things, in new memory.
		g, h := wildThings(rand.New(rand.NewSource(seed))), wildThings(rand.New(rand.NewSource(seed)))
		first := calls(g)
		if !reflect.DeepEqual(g, h) {
			t.Fatalf("changed: %+v, was %+v", g, h)
		}
		if again := calls(h); !reflect.DeepEqual(first, again) {
			t.Fatalf("%+v, then %+v", first, again)
		}
		if first.Faults[1] != first.Faults[2] || first.Faults[1] != first.Faults[3] {
			t.Fatalf("Compile, Analyze, Play: %v of %s", first.Faults, g.Src)
		}
		for i, empty := range []bool{len(first.Built) == 0, len(first.Compiled) == 0, same(first.Typed, api.Typed{}), len(first.Played) == 0} {
			if first.Faults[i] != (api.Fault{}) && !empty || first.Faults[i] == (api.Fault{}) && empty && i < 3 {
				t.Fatalf("%v: %+v", first.Faults[i], first)
			}
			seen[fmt.Sprint("fault ", i, first.Faults[i].Code != api.OK)]++
		}
		for i, empty := range []bool{first.Words[0] == "", len(first.Traced) == 0, len(first.Inputs) == 0} {
			if first.Errnos[i] != api.OK && !empty {
				t.Fatalf("%v: %+v", first.Errnos[i], first)
			}
			seen[fmt.Sprint("errno ", i, first.Errnos[i] != api.OK)]++
		}
	}
	if len(seen) != 14 {
		t.Errorf("%v", seen)
	}
	for what, count := range seen {
		if count < 200 {
			t.Errorf("%s: %d alone", what, count)
		}
	}
}

// G3: an answer is new memory: it shares none with what was given, with another answer, or within itself; and writing into it is not seen.
func TestNewMemory(t *testing.T) {
	t.Parallel()
	r := rand.New(rand.NewSource(143))
	for range 300 {
		p := anyPlan(r, 0, 0)
		g := given{Plan: p, Src: printed(t, p), Ins: anyIns(r, 20), List: anyEntries(r)}
		g.Text, _ = driver.Trace(g.List)
		kept := copied(g)
		first, second := calls(g), calls(g)
		words, _ := driver.Inputs("3*1 2*F")
		others, _ := driver.Inputs("3*1 2*F")
		if shares(g, first, second, words, others) {
			t.Fatalf("shared memory: %+v", first)
		}
		want := copied(second)
		ruin(first)
		ruin(words)
		if third := calls(kept); !same(third, want) || !same(second, want) || !slices.Equal(others, []uint64{1, 1, 1, 15, 15}) {
			t.Fatalf("%+v, %+v, want %+v", second, third, want)
		}
		ruin(g)
		if !same(second, want) {
			t.Fatalf("%+v, want %+v behind ruined arguments", second, want)
		}
	}
}

// G4: nil and empty lists count as the same.
func TestNilAndEmpty(t *testing.T) {
	t.Parallel()
	r := rand.New(rand.NewSource(144))
	for range 300 {
		p := anyPlan(r, pick(r, 0, 200), pick(r, 0, 20))
		full := copied(p)
		visit(reflect.ValueOf(&full).Elem(), func(v reflect.Value) {
			if v.Kind() == reflect.Slice && v.Len() == 0 {
				v.Set(reflect.MakeSlice(v.Type(), 0, 3))
			}
		})
		bare := copied(p)
		visit(reflect.ValueOf(&bare).Elem(), func(v reflect.Value) {
			if v.Kind() == reflect.Slice && v.Len() == 0 {
				v.SetZero()
			}
		})
		b, f := driver.Build(full)
		c, g := driver.Build(bare)
		if f != g || !bytes.Equal(b, c) {
			t.Fatalf("%v, %x with empty lists, %v, %x with nil of %+v", f, b, g, c, p)
		}
	}
	for _, list := range [][]api.Entry{nil, {}} {
		if text, errno := driver.Trace(list); text != "" || errno != api.OK {
			t.Errorf("Trace: %q, %d", text, errno)
		}
	}
	if list, errno := driver.Retrace(""); len(list) != 0 || errno != api.OK {
		t.Errorf("Retrace: %v, %d", list, errno)
	}
	if list, errno := driver.Inputs(""); len(list) != 0 || errno != api.OK {
		t.Errorf("Inputs: %v, %d", list, errno)
	}
}

// G2: calls that are made at the same time don't see each other.
func TestAtTheSameTime(t *testing.T) {
	t.Parallel()
	var wait sync.WaitGroup
	for i := range int64(8) {
		wait.Go(func() {
			for seed := range int64(40) {
				g := wildThings(rand.New(rand.NewSource(seed*8 + i)))
				first := calls(g)
				for range 3 {
					if again := calls(g); !reflect.DeepEqual(first, again) {
						t.Errorf("%+v, then %+v", first, again)
					}
				}
			}
		})
	}
	wait.Wait()
}

// G1: what is far above all limits is through soon; a text's length alone is refused by Parse and by nothing else.
func TestLarge(t *testing.T) {
	t.Parallel()
	began := time.Now()
	const size = 1 << 24
	checkSource(t, strings.Repeat("plan p { ", size/8), api.Fault{Code: api.ErrLong})
	checkNoTrace(t, strings.Repeat("0 r -\n", size/8))
	checkNoTrace(t, strings.Repeat("9", size))
	checkNoTrace(t, "0 "+strings.Repeat("r", size)+" 0\n")
	checkNoTrace(t, "0-"+strings.Repeat("1", size)+" r 0\n")
	checkNoTrace(t, "0 r "+strings.Repeat("0", size)+"\n")
	checkNoInputs(t, strings.Repeat("1", size))
	checkNoInputs(t, strings.Repeat("*", size))
	checkNoInputs(t, strings.Repeat("1 ", size/2))
	checkInputs(t, strings.Repeat("\n", size)+strings.Repeat("0", size)+"2*1", 1, 1)
	checkUntold(t, make([]api.Entry, size))
	p := parsed(t, smallPlan)
	count := len(p.Decls)
	p.Decls = slices.Concat(p.Decls, slices.Repeat([]api.Decl{{Kind: api.DeConst, Name: "k"}}, size/256))
	if _, f := driver.Build(p); f.Code != api.ErrTwice {
		t.Errorf("Build: %v of a constant declared over and over", f)
	}
	for i := range p.Decls[count:] {
		p.Decls[count+i].Name = fmt.Sprint("k", i)
	}
	want, _ := driver.Compile(smallPlan)
	if b, f := driver.Build(p); f != (api.Fault{}) || !bytes.Equal(b, want) {
		t.Errorf("Build: %v, %x with many constants, want %x", f, b, want)
	}
	if took := time.Since(began); took > 20*time.Second {
		t.Errorf("it took %v", took)
	}
}
