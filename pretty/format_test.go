package pretty_test

import (
	"math/rand"
	"slices"
	"strings"
	"testing"

	"junction/api"
	"junction/pretty"
	"junction/tree"
)

func checkFormat(t *testing.T, src, want string) {
	t.Helper()
	if got, fault := pretty.Format(src); got != want || fault != (api.Fault{}) {
		t.Errorf("Format(%.500q) = %.500q, %v, want %.500q", src, got, fault, want)
	}
}

func checkFormatFails(t *testing.T, src string, want api.Fault) {
	t.Helper()
	if got, fault := pretty.Format(src); got != "" || fault != want {
		t.Errorf("Format(%.300q) = %.300q, %v, want %v", src, got, fault, want)
	}
}

// P4.3, P4.6: the chapter's example, and what a source may have otherwise than the text.
func TestFormat(t *testing.T) {
	checkFormat(t, `plan demo{group A vehicle min 0x5 amber 3 lead 1;detector D hold 2 ; const k=-7;
       stage S{green A;during{if((a)+(b*c)>0){}else{if D{run t;}}}next S2 when not(D)and elapsed>=k;}}`, lines(`
plan demo {
  group A vehicle min 5 amber 3 lead 1;
  detector D hold 2;
  const k = -7;
  stage S {
    green A;
    during {
      if a + b * c > 0 {
      } else if D {
        run t;
      }
    }
    next S2 when not D and elapsed >= k;
  }
}`))
	checkFormat(t, smallPlan, smallPlan)
	checkFormat(t, "# a plan\nplan p{}# of nothing", "plan p {\n}\n")
	checkFormat(t, "plan p{const k=-0;var v=- 1_000;timer t;}", within("const k = 0;\nvar v = -1000;\ntimer t;"))
	checkFormat(t, "plan p{group g pedestrian min 1m amber 0x0A lead 0;detector d delay 0 hold 0;detector e latch delay 1h hold 007;}", within("group g pedestrian min 60 amber 10;\ndetector d;\ndetector e latch delay 3600 hold 7;"))
	checkFormat(t, "plan p{stage s{green;enter{}during{}leave{}}}", within("stage s {\n  green;\n}"))
	checkFormat(t, "plan p{stage s{green b,a;leave{x=((1));}next s when(true);}}", within("stage s {\n  green b, a;\n  leave {\n    x = 1;\n  }\n  next s when true;\n}"))
}

// P4.3: the faults are those of tree.Parse.
func TestFormatFaults(t *testing.T) {
	at := func(e api.Errno, line, col int) api.Fault {
		return api.Fault{Code: e, At: api.Pos{Line: line, Col: col}}
	}
	r := strings.Repeat
	for src, want := range map[string]api.Fault{
		"":                                     at(api.ErrToken, 1, 1),
		"plan p { } x":                         at(api.ErrToken, 1, 12),
		"plan p {\n $ }":                       at(api.ErrByte, 2, 2),
		"plan p { timer t; \n 1x }":            at(api.ErrForm, 2, 2),
		"plan p { const c = 2147483648; }":     at(api.ErrBig, 1, 20),
		"plan p { const c = -2147483648; }":    at(api.ErrBig, 1, 21),
		"plan " + r("n", 33) + " { }":          at(api.ErrName, 1, 6),
		"plan p { cond c = a < b < c; }":       at(api.ErrToken, 1, 25),
		"plan p { cond c = " + r("(", 65):      at(api.ErrDeep, 1, 83),
		"plan p { cond c = a" + r("+a", 128):   at(api.ErrNodes, 1, 275),
		"plan p { }" + r(" ", api.MaxSource):   {Code: api.ErrLong},
		r("$", api.MaxSource+1):                {Code: api.ErrLong},
		smallPlan[:len(smallPlan)-2]:           at(api.ErrToken, 35, 1),
		"plan p { stage s { green; next s } }": at(api.ErrToken, 1, 34),
	} {
		checkFormatFails(t, src, want)
	}
	rnd := rand.New(rand.NewSource(3))
	seen := map[api.Errno]int{}
	for range 4000 {
		src := scattered(rnd, tokensOf(anyPlan(rnd), rnd))
		i := rnd.Intn(len(src) + 1)
		src = src[:i] + pick(rnd, "", "(", ")", "}", "if", "$", "_", " 1x", "- -", "+", ";") + src[min(len(src), i+rnd.Intn(2)):]
		p, fault := tree.Parse(src)
		seen[fault.Code]++
		if fault == (api.Fault{}) {
			checkFormat(t, src, modelPrint(p))
		} else {
			checkFormatFails(t, src, fault)
		}
	}
	for _, e := range []api.Errno{api.OK, api.ErrToken, api.ErrByte, api.ErrForm} {
		if seen[e] < 50 {
			t.Errorf("the error %d has come %d times alone", e, seen[e])
		}
	}
}

// P4.3: a source that is short enough may have a text that is not.
func TestFormatLength(t *testing.T) {
	for _, c := range []struct {
		name   string
		timers int
		want   int
	}{{"p", 6552, 65531}, {"pppppp", 6552, 65536}, {"ppppppp", 6552, -1}, {"p", 6553, -1}, {"p", 8000, -1}} {
		src := "plan " + c.name + "{" + strings.Repeat("timer a;", c.timers) + "}"
		text, fault := pretty.Format(src)
		if c.want < 0 {
			checkFormatFails(t, src, api.Fault{Code: api.ErrLong})
		} else if len(text) != c.want || fault != (api.Fault{}) {
			t.Errorf("the text of %d timers: %d bytes, %v, want %d", c.timers, len(text), fault, c.want)
		}
	}
	// And the longest source may have the shortest text.
	checkFormat(t, "plan p{"+strings.Repeat(" ", api.MaxSource-8)+"}", "plan p {\n}\n")
	checkFormat(t, "plan p{}#"+strings.Repeat("$", api.MaxSource-9), "plan p {\n}\n")
}

// P4.5, P4.6: however a plan is laid out, with whatever brackets, one text comes of it; and that is its own.
func TestFormatIsBlind(t *testing.T) {
	r := rand.New(rand.NewSource(46))
	for range 1500 {
		p := anyPlan(r)
		want := modelPrint(p)
		fewest := tokensOf(p, nil)
		checkFormat(t, scattered(r, fewest), want)
		checkFormat(t, strings.Join(fewest, " "), want)
		checkFormat(t, strings.Join(fewest, " #\n"), want)
		for range 3 {
			tokens := tokensOf(p, r)
			src := scattered(r, tokens)
			checkFormat(t, src, want)
			checkFormat(t, scattered(r, tokens), want)
		}
		checkFormat(t, want, want)
	}
}

// P4.6: brackets around every part of an expression, as many as there may be.
func TestBracketsAreNotSeen(t *testing.T) {
	r := strings.Repeat
	head, tail := "plan p { cond c = ", "; }"
	for _, c := range [][2]string{
		{"a", "a"},
		{"a + b", "(a) + ((b))"},
		{"a + b", "((a + b))"},
		{"a - b - c", "(a - b) - c"},
		{"a - (b - c)", "(a) - (((b - (c))))"},
		{"not a and b", "(not (a)) and (b)"},
		{"not (a and b)", "not ((a and b))"},
		{"-a * b", "(-a) * b"},
		{"-(a * b)", "-((a) * b)"},
		{"--5", "-(-5)"},
		{"min(a, b or c)", "(min((a), ((b) or c)))"},
		{"abs(-5)", "abs((-(5)))"},
		{"green(g) == red(h)", "(green(g)) == (red(h))"},
		{"a < b == c", ""},
		{"(a < b) == c", "((a) < (b)) == (c)"},
		{"a or b and not c", "(a) or ((b) and (not c))"},
	} {
		if c[1] == "" {
			if _, fault := pretty.Format(head + c[0] + tail); fault.Code != api.ErrToken {
				t.Errorf("%q: %v", c[0], fault)
			}
			continue
		}
		want := "plan p {\n\tcond c = " + c[0] + ";\n}\n"
		checkFormat(t, head+c[0]+tail, want)
		checkFormat(t, head+c[1]+tail, want)
	}
	checkFormat(t, head+r("(", 64)+"a"+r(")", 64)+tail, "plan p {\n\tcond c = a;\n}\n")
	checkFormatFails(t, head+r("(", 65)+"a"+r(")", 65)+tail, api.Fault{Code: api.ErrDeep, At: api.Pos{Line: 1, Col: len(head) + 65}})
}

// P4.5: a text of Format is its own format, of plans at the limits too.
func TestFormatOnce(t *testing.T) {
	deep := strings.Repeat("(a <", 64) + "b" + strings.Repeat(")", 64)
	long := "a" + strings.Repeat("+(a)", 127)
	ifs := strings.Repeat("if a{}else ", 15) + "if b{x=-(" + deep + ");}"
	_, tooDeep := pretty.Format("plan p{stage s{green;enter{" + ifs + "}}}")
	if tooDeep.Code != api.ErrDeep {
		t.Errorf("%v", tooDeep)
	}
	ifs = strings.Repeat("if a{}else ", 15) + "if b{x=" + deep + ";}"
	nested := strings.Repeat("if a{", 16) + "x=" + long + ";" + strings.Repeat("}else{}", 16)
	src := "plan p{stage s{green;enter{" + ifs + nested + "}next s when " + deep + ";next t when " + long + ";}}"
	text, fault := pretty.Format(src)
	if fault != (api.Fault{}) {
		t.Fatal(fault)
	}
	checkFormat(t, text, text)
	for _, piece := range []string{"\t\t\t} else if b {\n", "\n" + strings.Repeat("\t", 19) + "x = a + a + a", "\t\tnext s when a < (a < ("} {
		if !strings.Contains(text, piece) {
			t.Errorf("%q is not in %q", piece, text)
		}
	}
	if n := strings.Count(text, "} else {\n"); n != 16 {
		t.Errorf("%d elses in %q", n, text)
	}
	if !slices.Equal(tokensOf(mustParse(t, src), nil), tokensOf(mustParse(t, text), nil)) {
		t.Errorf("%q and %q are two plans", src, text)
	}
}

func mustParse(t *testing.T, src string) api.Plan {
	t.Helper()
	p, fault := tree.Parse(src)
	if fault != (api.Fault{}) {
		t.Fatal(fault)
	}
	return p
}
