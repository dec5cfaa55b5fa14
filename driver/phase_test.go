package driver_test

import (
	"bytes"
	"fmt"
	"math"
	"math/rand"
	"slices"
	"strings"
	"testing"

	"junction/api"
	"junction/check"
	"junction/driver"
	"junction/load"
	"junction/tree"
)

// checkSource asks Compile and Analyze for a fault, and that nothing stands beside it.
func checkSource(t *testing.T, src string, want api.Fault) {
	t.Helper()
	b, one := driver.Compile(src)
	x, two := driver.Analyze(src)
	if one != want || two != want {
		t.Errorf("%.2000s: Compile %v, Analyze %v, want %v", src, one, two, want)
	}
	if want != (api.Fault{}) && (len(b) > 0 || !same(x, api.Typed{})) {
		t.Errorf("%.2000s: beside the fault %x, %+v", src, b, x)
	}
}

// P14.1, P14.3, P14.4: small, and the chapter's examples of it.
func TestSmall(t *testing.T) {
	t.Parallel()
	checkSource(t, smallPlan, api.Fault{})
	p := parsed(t, smallPlan)
	want, f := check.Resolve(p)
	if x, _ := driver.Analyze(smallPlan); f != (api.Fault{}) || !same(x, want) {
		t.Errorf("Analyze: %+v, want %+v", x, want)
	}
	b, _ := driver.Compile(smallPlan)
	m, f := load.Load(b)
	if f != (api.Fault{}) || len(m.Slots) != 3 || len(m.Tables.Groups) != 3 || len(m.Dets) != 2 {
		t.Errorf("Load: %v, %+v", f, m)
	}
	if again, f := driver.Build(p); f != (api.Fault{}) || !bytes.Equal(b, again) {
		t.Errorf("Build: %v, %x, want %x", f, again, b)
	}
	for src, want := range map[string]string{
		"":           "1:1: tree: a token that cannot stand here",
		"plan p { }": "check: not just one start",
		smallWith("conflict main side 5 6", "conflict main side 2 6"): "5:2: safety: an intergreen shorter than the amber",
		smallWith("green main;", "green main, side;"):                 "14:2: safety: groups in conflict",
		smallWith("when push", "when longest"):                        "20:19: check: a number and a truth confused",
		strings.TrimSuffix(smallPlan, "}\n"):                          "35:1: tree: a token that cannot stand here",
	} {
		if _, f := driver.Compile(src); driver.Report(f) != want {
			t.Errorf("%s: %q, want %q", src, driver.Report(f), want)
		}
	}
}

// refused are texts that a phase refuses; the fault's place is at the @, or there is none.
var refused = []struct {
	code api.Errno
	text string
}{
	// lex
	{api.ErrByte, "plan p { start s; @$ }"},
	{api.ErrBig, "plan p {\n\tvar x = @2147483648;\n}"},
	{api.ErrForm, "plan p { var x = @0x; }"},
	{api.ErrName, "plan @" + strings.Repeat("n", 33) + " { }"},
	{api.ErrLong, strings.Repeat(" ", 65537)},
	// tree
	{api.ErrToken, "@"},
	{api.ErrToken, "plan p { timer t @}"},
	{api.ErrDeep, "plan p { cond c = " + strings.Repeat("not ", 64) + "@not true; }"},
	{api.ErrNodes, "plan p { cond c = " + strings.Repeat("true or ", 128) + "@true; }"},
	// check
	{api.ErrTwice, "plan p { timer t; @counter t; start s; }"},
	{api.ErrUnknown, "plan p { @start s; }"},
	{api.ErrKind, "plan p { timer t; @start t; }"},
	{api.ErrType, "plan p { start s; stage s { green; next t when @1; } stage t { green; } }"},
	{api.ErrRange, "plan p { @group g vehicle min 0 amber 3; }"},
	{api.ErrMany, "plan p { start s; " + things("timer", 64) + " @timer u; }"},
	{api.ErrStart, "plan p { stage s { green; } }"},
	{api.ErrStart, "plan p { stage s { green; } start s; @start s; }"},
	{api.ErrPair, "plan p { group g vehicle min 5 amber 3; @conflict g g 4 4; }"},
	{api.ErrSelf, "plan p { start s; stage s { green; @next s when true; } }"},
	{api.ErrSize, "plan p { cond c = " + strings.Repeat("true or ", 99) + "true; cond d = c @or c; start s; }"},
}

// things are so many declarations of a word.
func things(word string, count int) string {
	var b strings.Builder
	for i := range count {
		fmt.Fprintf(&b, "%s %s%d; ", word, word, i)
	}
	return b.String()
}

// P14.1, P14.3: the faults of lex, tree and check are told as they are.
func TestFaultsAsTheyAre(t *testing.T) {
	t.Parallel()
	for _, c := range refused {
		src, where := marked(c.text)
		checkSource(t, src, api.Fault{Code: c.code, At: where})
	}
}

// crossing is a plan's text in which all is right: groups, conflicts and stages stand among other declarations, and are named in an order of their own.
const crossing = `plan p {
	timer t;
	group a vehicle min 5 amber 3 lead 1;
	const k = 4;
	group b pedestrian min 4 amber 0;
	group c vehicle min 6 amber 4 lead 3;
	detector d;
	conflict c b 5 1;
	conflict a b 3 2;
	var v = 1;
	conflict c a 4 4;
	stage two { green b; next three when d; }
	counter n;
	start one;
	stage one { green a; next two when true; }
	stage three { green c; next one when v > k; next two when elapsed > 9; }
}
`

// changed is crossing with texts of it changed, each with the one behind it in the list.
func changed(changes ...string) string {
	text := crossing
	for i := 0; i < len(changes); i += 2 {
		if !strings.Contains(text, changes[i]) {
			panic(changes[i])
		}
		text = strings.Replace(text, changes[i], changes[i+1], 1)
	}
	return text
}

// found are texts that safety finds something in; what it finds has its place at the @.
var found = []struct {
	code api.Errno
	text string
}{
	{api.ErrMin, changed("group a vehicle min 5", "@group a vehicle min 4")},
	{api.ErrMin, changed("group b pedestrian min 4", "@group b pedestrian min 3")},
	{api.ErrMin, changed("group c vehicle min 6", "@group c vehicle min 1")},
	{api.ErrAmber, changed("group a vehicle min 5 amber 3", "@group a vehicle min 5 amber 2")},
	{api.ErrAmber, changed("group c vehicle min 6 amber 4", "@group c vehicle min 6 amber 0")},
	{api.ErrLead, changed("group b pedestrian min 4 amber 0", "@group b pedestrian min 4 amber 0 lead 1")},
	{api.ErrLead, changed("group c vehicle min 6 amber 4 lead 3", "@group c vehicle min 6 amber 4 lead 4")},
	// By their groups' numbers the conflicts are those of a and b, of a and c, of b and c.
	{api.ErrShort, changed("conflict a b 3 2", "@conflict a b 2 2")},
	{api.ErrShort, changed("conflict a b 3 2", "@conflict b a 2 2")},
	{api.ErrShort, changed("conflict c a 4 4", "@conflict c a 4 2")},
	{api.ErrShort, changed("conflict c a 4 4", "@conflict c a 3 4")},
	{api.ErrShort, changed("conflict c a 4 4", "@conflict a c 4 3")},
	{api.ErrShort, changed("conflict c b 5 1", "@conflict c b 3 1")},
	{api.ErrShort, changed("conflict c b 5 1", "@conflict b c 1 0")},
	{api.ErrClash, changed("stage one { green a;", "@stage one { green a, c;")},
	{api.ErrClash, changed("stage two { green b;", "@stage two { green c, b;")},
	{api.ErrClash, changed("stage three {", "@stage four { green a, b; } stage three {")}, // it is not reached
	{api.ErrTrap, changed("stage two { green b; next three when d;", "@stage two { green b;")},
	{api.ErrTrap, changed("next one when v > k; next two when elapsed > 9;", "next four when d;", "start one;", "start one; stage none { green; } @stage four { green; }")},
	{api.ErrNever, changed("group a", "@group a", "stage one { green a;", "stage one { green;")},
	{api.ErrNever, changed("group b", "@group b", "stage two { green b;", "stage two { green;")},
	{api.ErrNever, changed("group c", "@group c", "stage three { green c;", "stage three { green;")},
	// The first move may have to wait for any group, as may all others.
	{api.ErrSlow, changed("conflict c a 4 4", "conflict c a 3599 4", "start one", "@start one")},
	{api.ErrSlow, changed("conflict a b 3 2", "conflict a b 3 3599", "start one", "@start one")},
	{api.ErrSlow, changed("conflict c b 5 1", "conflict c b 3600 1", "stage one", "@stage one")},
	{api.ErrSlow, changed("conflict c b 5 1", "conflict c b 5 3597", "stage two", "@stage two")},
	{api.ErrSlow, changed("conflict c a 4 4", "conflict c a 4 3597", "stage two", "@stage two")},
}

// P14.1 to P14.3: the place of each finding, by the chapter's table, with the places of a text, with others, and with none.
func TestPlacesOfFindings(t *testing.T) {
	t.Parallel()
	checkSource(t, crossing, api.Fault{})
	for _, c := range found {
		src, where := marked(c.text)
		want := api.Fault{Code: c.code, At: where}
		checkSource(t, src, want)
		p := parsed(t, src)
		if _, f := driver.Build(p); f != want {
			t.Errorf("%s: Build: %v, want %v", c.text, f, want)
		}
		// The declarations are told apart by places of their own.
		n := 0
		for k := range p.Decls {
			if p.Decls[k].At == want.At {
				n = k + 1
			}
			p.Decls[k].At = at(-k-1, math.MaxInt)
		}
		if _, f := driver.Build(p); n == 0 || f != (api.Fault{Code: want.Code, At: at(-n, math.MaxInt)}) {
			t.Errorf("%s: Build: %v of declaration %d", c.text, f, n)
		}
		if _, f := driver.Build(tree.Bare(p)); f != (api.Fault{Code: want.Code}) {
			t.Errorf("%s: Build: %v without places", c.text, f)
		}
	}
}

// P14.1: the first finding is told, by the order of safety's, not by that of the text.
func TestFirstFinding(t *testing.T) {
	t.Parallel()
	changes := []struct {
		code     api.Errno
		old, new string
	}{
		{api.ErrSlow, "conflict c b 5 1", "conflict c b 5 3597"},
		{api.ErrNever, "stage one { green a;", "stage one { green;"},
		{api.ErrTrap, "next one when v > k; next two when elapsed > 9;", ""},
		{api.ErrClash, "stage two { green b;", "stage two { green b, a;"},
		{api.ErrShort, "conflict c a 4 4", "conflict c a 4 2"},
		{api.ErrLead, "amber 4 lead 3", "amber 4 lead 4"},
		{api.ErrAmber, "min 6 amber 4", "min 6 amber 2"},
		{api.ErrMin, "min 6", "min 4"},
	}
	src := crossing
	for _, c := range changes {
		if c.code == api.ErrClash {
			src = strings.Replace(src, "stage one { green;", "stage one { green a;", 1)
		}
		src = strings.Replace(src, c.old, c.new, 1)
		if _, f := driver.Analyze(src); f.Code != c.code {
			t.Errorf("%s: %v, want %d", src, f, c.code)
		}
	}
}

// P14.1, P14.3: the first phase that refuses gives the fault, wherever the others find something.
func TestFirstPhase(t *testing.T) {
	t.Parallel()
	unsafe := strings.Replace(crossing, "group a vehicle min 5", "group a vehicle min 4", 1)
	unsound := strings.Replace(unsafe, "when elapsed > 9", "when @elapsed", 1)
	untold := strings.Replace(unsound, "@", "", 1) + "@}"
	unread := strings.Replace(untold, "@", "", 1) + "\n@$"
	for i, text := range []string{strings.Replace(unsafe, "group a", "@group a", 1), unsound, untold, unread} {
		src, where := marked(text)
		checkSource(t, src, api.Fault{Code: []api.Errno{api.ErrMin, api.ErrType, api.ErrToken, api.ErrByte}[i], At: where})
	}
	checkSource(t, unread+strings.Repeat(" ", 65537), api.Fault{Code: api.ErrLong})
}

// P14.2: what is not well formed is refused with no place, whatever its places are.
func TestNotWellFormed(t *testing.T) {
	t.Parallel()
	for name, change := range map[string]func(p *api.Plan){
		"no plan":      func(p *api.Plan) { *p = api.Plan{} },
		"no name":      func(p *api.Plan) { p.Name = "" },
		"a keyword":    func(p *api.Plan) { p.Name = "plan" },
		"no kind":      func(p *api.Plan) { p.Decls[0].Kind = 0 },
		"kind 11":      func(p *api.Plan) { p.Decls[0].Kind = 11 },
		"no sort":      func(p *api.Plan) { p.Decls[1].Sort = 3 },
		"below 0":      func(p *api.Plan) { p.Decls[1].N[1] = -1 },
		"no word":      func(p *api.Plan) { p.Decls[2].N[0] = math.MinInt32 },
		"a wrong Ix":   func(p *api.Plan) { p.Decls[10].Stage.Enter = []api.Stmt{{Kind: api.StRun, Name: "t", Ix: 1}} },
		"an open if":   func(p *api.Plan) { p.Decls[10].Stage.Leave = []api.Stmt{{Kind: api.StIf, Expr: truth(1)}} },
		"a typed node": func(p *api.Plan) { p.Decls[10].Stage.Nexts[0].When = []api.Node{{Op: api.OpDet}} },
		"no guard":     func(p *api.Plan) { p.Decls[10].Stage.Nexts[0].When = nil },
		"far too long": func(p *api.Plan) { p.Decls[10].Stage.Nexts[0].When = slices.Repeat(truth(1), 100000) },
	} {
		p := copied(parsed(t, crossing))
		if change(&p); tree.Formed(p) {
			t.Fatalf("%s: %+v", name, p)
		}
		if b, f := driver.Build(p); f != (api.Fault{Code: api.ErrTree}) || len(b) > 0 {
			t.Errorf("%s: %v, %x", name, f, b)
		}
	}
}

func truth(val int32) []api.Node { return []api.Node{{Op: api.OpBool, Val: val}} }

// P14.1 to P14.4: plans at random, right and wrong, as values and as texts, against the phases one by one.
func TestPlansAtRandom(t *testing.T) {
	t.Parallel()
	r := rand.New(rand.NewSource(141))
	seen := map[api.Errno]int{}
	for n := range 6000 {
		p := anyPlan(r, pick(r, 0, 0, 60, 300), pick(r, 0, 5, 20, 40))
		if n%5 == 0 {
			p = spoilt(r, p)
		}
		bytesWant, want := modelBuild(p)
		b, f := driver.Build(p)
		if f != want || !bytes.Equal(b, bytesWant) {
			t.Fatalf("Build: %v, %x, want %v, %x of %+v", f, b, want, bytesWant, p)
		}
		seen[f.Code]++
		if !tree.Formed(p) {
			continue
		}
		src := printed(t, p)
		if n%4 == 0 {
			src = smudged(r, src, ";", "}", "{", "g0", " ", "$", "7", "next", "\n", "#x\n", "stage")
		}
		checkPhases(t, src)
	}
	for _, code := range []api.Errno{api.OK, api.ErrTree, api.ErrClash, api.ErrShort, api.ErrMin, api.ErrAmber, api.ErrLead, api.ErrTrap, api.ErrNever, api.ErrSlow, api.ErrTwice, api.ErrUnknown, api.ErrKind, api.ErrType} {
		if seen[code] < 20 {
			t.Errorf("%d: %d plans alone", code, seen[code])
		}
	}
}

// checkPhases holds Compile and Analyze of a text against the phases one by one.
func checkPhases(t *testing.T, src string) {
	t.Helper()
	p, want := tree.Parse(src)
	var x api.Typed
	var bytesWant []byte
	if want == (api.Fault{}) {
		x, want = modelTyped(p)
		bytesWant, _ = modelBuild(p)
	}
	typed, one := driver.Analyze(src)
	b, two := driver.Compile(src)
	if one != want || two != want || !same(typed, x) || !bytes.Equal(b, bytesWant) {
		t.Fatalf("%s: Analyze %v, %+v, Compile %v, %x, want %v, %+v, %x", src, one, typed, two, b, want, x, bytesWant)
	}
	if _, f := load.Load(b); want == (api.Fault{}) && f != (api.Fault{}) {
		t.Fatalf("%s: Load: %v", src, f)
	}
}

// P14.2, P14.3: the optimizer is asked too: what can never happen is not in the image, while Analyze's plan has it.
func TestOptimized(t *testing.T) {
	t.Parallel()
	src := "plan p { start s; stage s { green; next t when true; next u when true; } stage t { green; next s when 1 + 1 == 2; } stage u { green; next s when true; } }"
	x, _ := driver.Analyze(src)
	b, _ := driver.Compile(src)
	m, f := load.Load(b)
	if f != (api.Fault{}) || len(m.Slots) != 2 || len(x.Stages) != 3 || len(x.Stages[1].Nexts[0].When) != 5 {
		t.Errorf("%v, %+v, %+v", f, m, x)
	}
}
