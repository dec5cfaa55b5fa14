package check_test

import (
	"slices"
	"testing"

	"junction/api"
	"junction/check"
)

// refused asks for one fault of a body, at its @.
func refused(t *testing.T, body string, code api.Errno) {
	t.Helper()
	p, where := marked(t, body)
	x, f := check.Resolve(p)
	if f != fault(code, where) || !same(x, api.Typed{}) {
		t.Errorf("%s: %v at %v, want %d at %v", body, f.Code, f.At, code, where)
	}
}

// taken asks for a body without a fault.
func taken(t *testing.T, body string) api.Typed {
	t.Helper()
	x, f := check.Resolve(parsed(t, body))
	if f != (api.Fault{}) {
		t.Errorf("%s: %v", body, f)
	}
	return x
}

// P5.3: the chapter's examples of faults.
func TestFaultExamples(t *testing.T) {
	refused(t, "", api.ErrStart)
	refused(t, "var x = 1; @timer x;", api.ErrTwice)
	refused(t, "@start s;", api.ErrUnknown)
	refused(t, "timer s; @start s;", api.ErrKind)
	refused(t, "start s; stage s { green; @next s when true; }", api.ErrSelf)
	refused(t, "@group a vehicle min 0 amber 3; start a;", api.ErrRange)
	refused(t, "group a vehicle min 5 amber 3; @conflict a a 1 1;", api.ErrPair)
	refused(t, "cond c = @1; start s;", api.ErrType)
	refused(t, "cond c = @d; detector d; start s;", api.ErrUnknown)
}

// P5.3: the second step is taken over all declarations ahead of the third.
func TestSecondStepFirst(t *testing.T) {
	refused(t, "group a vehicle min 0 amber 3; start q; var x = 1; @var x = 2;", api.ErrTwice)
	refused(t, "cond c = 1; stage c2 { green; next c2 when 1; } @timer c;", api.ErrTwice)
}

// P5.3: ranges of groups, detectors and conflicts, on both sides of each edge.
func TestRanges(t *testing.T) {
	const rest = " start s; stage s { green; }"
	for _, good := range []string{
		"group a vehicle min 1 amber 0;", "group a vehicle min 3600 amber 60 lead 60;", "group a pedestrian min 1h amber 1m lead 0;",
		"detector d;", "detector d delay 3600 hold 3600;", "detector d latch delay 0 hold 0;",
		"var x = 2147483647; var y = -2147483647; const k = 2147483647; const l = -2147483647;",
	} {
		taken(t, good+rest)
	}
	for _, bad := range []string{
		"@group a vehicle min 0 amber 3;", "@group a vehicle min 3601 amber 3;", "@group a vehicle min 2147483647 amber 3;",
		"@group a vehicle min 5 amber 61;", "@group a vehicle min 5 amber 2147483647;",
		"@group a vehicle min 5 amber 3 lead 61;", "@group a pedestrian min 0 amber 61 lead 61;",
		"@detector d delay 3601;", "@detector d hold 3601;", "@detector d latch delay 3600 hold 2147483647;",
	} {
		refused(t, bad+rest, api.ErrRange)
	}
	const two = "group a vehicle min 5 amber 3; group b vehicle min 5 amber 3; "
	taken(t, two+"conflict a b 0 0;"+rest)
	taken(t, two+"conflict b a 3600 3600;"+rest)
	refused(t, two+"@conflict a b 3601 0;"+rest, api.ErrRange)
	refused(t, two+"@conflict a b 0 3601;"+rest, api.ErrRange)
	refused(t, two+"@conflict b a 2147483647 3601;"+rest, api.ErrRange)
}

// P5.3: conflicts.
func TestConflictFaults(t *testing.T) {
	const three = "group a vehicle min 5 amber 3; group b vehicle min 5 amber 3; group c pedestrian min 5 amber 3; "
	const rest = " start s; stage s { green; }"
	refused(t, three+"@conflict q a 1 1;"+rest, api.ErrUnknown)
	refused(t, three+"@conflict a q 1 1;"+rest, api.ErrUnknown)
	refused(t, three+"@conflict q s 1 1;"+rest, api.ErrUnknown)
	refused(t, three+"@conflict s q 1 1;"+rest, api.ErrKind)
	refused(t, three+"@conflict a s 9999 1;"+rest, api.ErrKind)
	refused(t, three+"@conflict a d 1 1; group d vehicle min 5 amber 3;"+rest, api.ErrUnknown)
	refused(t, three+"@conflict d a 1 1; group d vehicle min 5 amber 3;"+rest, api.ErrUnknown)
	refused(t, three+"@conflict p a 1 1;"+rest, api.ErrUnknown)
	refused(t, three+"@conflict b b 1 1;"+rest, api.ErrPair)
	refused(t, three+"@conflict b b 9999 1;"+rest, api.ErrPair)
	refused(t, three+"conflict a b 1 1; conflict a c 1 1; @conflict a b 1 1;"+rest, api.ErrPair)
	refused(t, three+"conflict a b 1 1; conflict a c 1 1; @conflict b a 1 1;"+rest, api.ErrPair)
	refused(t, three+"conflict c a 1 1; conflict b c 1 1; @conflict a c 9999 1;"+rest, api.ErrPair)
	taken(t, three+"conflict c a 1 1; conflict b c 1 1; conflict b a 1 1;"+rest)
	for kind, text := range declared {
		for _, names := range []string{"a x", "x a"} {
			body := text + " " + three + "conflict " + names + " 1 1;" + rest
			if kind == api.DeGroup {
				taken(t, body)
			} else {
				refused(t, text+" "+three+"@conflict "+names+" 1 1;"+rest, api.ErrKind)
			}
		}
	}
}

// P5.3: starts.
func TestStartFaults(t *testing.T) {
	refused(t, "timer a; stage s { green; }", api.ErrStart)
	refused(t, "start s; stage s { green; } @start s;", api.ErrStart)
	refused(t, "start s; stage s { green; } @start q;", api.ErrStart)
	refused(t, "timer a; start s; stage s { green; } @start a;", api.ErrStart)
	refused(t, "@start a; timer a; stage s { green; }", api.ErrUnknown)
	refused(t, "@start p; stage s { green; } start s;", api.ErrUnknown)
	for kind, text := range declared {
		if kind == api.DeStage {
			taken(t, text+" start x;")
			taken(t, "start x; "+text)
		} else {
			refused(t, text+" @start x;", api.ErrKind)
			refused(t, "@start x; "+text, api.ErrUnknown)
		}
	}
	// That there is no start is told last.
	refused(t, "stage s { green; next t when @1; } stage t { green; }", api.ErrType)
	refused(t, "stage s { green; } @group a vehicle min 0 amber 1;", api.ErrRange)
}

// P5.3: the groups of a stage, from the left.
func TestGreenFaults(t *testing.T) {
	const two = "group a vehicle min 5 amber 3; group b vehicle min 5 amber 3; start s; "
	taken(t, two+"stage s { green a, b; }")
	taken(t, two+"stage s { green b, a; }")
	refused(t, two+"@stage s { green q; }", api.ErrUnknown)
	refused(t, two+"@stage s { green a, b, q; }", api.ErrUnknown)
	refused(t, two+"@stage s { green s; }", api.ErrKind)
	refused(t, two+"@stage s { green a, a; }", api.ErrPair)
	refused(t, two+"@stage s { green a, b, a, q; }", api.ErrPair)
	refused(t, two+"@stage s { green a, q, a; }", api.ErrUnknown)
	refused(t, two+"@stage s { green a, s, q; }", api.ErrKind)
	refused(t, two+"@stage s { green t, a, a; } stage t { green; }", api.ErrKind)
	refused(t, two+"@stage s { green c; } group c vehicle min 5 amber 3;", api.ErrUnknown)
	refused(t, two+"@stage s { green a, a; enter { q = 1; } next q when 1; }", api.ErrPair)
	for kind, text := range declared {
		if kind == api.DeGroup {
			taken(t, text+" start s; stage s { green x; }")
		} else {
			refused(t, text+" start s; @stage s { green x; }", api.ErrKind)
		}
	}
}

// P5.3: which kinds of names each statement takes.
func TestStatementKinds(t *testing.T) {
	wants := map[string][]int{"x = 1;": {api.DeVar}, "reset x;": {api.DeTimer, api.DeCounter}, "run x;": {api.DeTimer}, "stop x;": {api.DeTimer}, "count x;": {api.DeCounter}, "clear x;": {api.DeDetector}}
	for text, good := range wants {
		for _, block := range []string{"enter", "during", "leave"} {
			for kind, decl := range declared {
				ahead := decl + " start s; stage s { green; " + block + " { "
				if slices.Contains(good, kind) {
					taken(t, ahead+text+" } }")
				} else {
					refused(t, ahead+"@"+text+" } }", api.ErrKind)
				}
				// Declared behind the stage it is not seen, but for stages.
				want := api.ErrUnknown
				if kind == api.DeStage {
					want = api.ErrKind
				}
				refused(t, "start s; stage s { green; "+block+" { @"+text+" } } "+decl, want)
			}
			refused(t, "start s; stage s { green; "+block+" { @"+text+" } }", api.ErrUnknown)
		}
	}
}

// P5.3: the order within a stage.
func TestStageOrder(t *testing.T) {
	const ahead = "var x = 0; timer r; start s; stage t { green; } stage s { green; "
	refused(t, ahead+"enter { x = 1; @q = 1; } during { q = 1; } leave { q = 1; } next q when 1; }", api.ErrUnknown)
	refused(t, ahead+"enter { x = 1; } during { run r; @run x; } leave { q = 1; } next q when 1; }", api.ErrKind)
	refused(t, ahead+"leave { x = @true; } next q when 1; }", api.ErrType)
	refused(t, ahead+"next t when @1; next q when 1; }", api.ErrType)
	refused(t, ahead+"next t when true; @next q when 1; }", api.ErrUnknown)
	refused(t, ahead+"@next q when 1; next t when 1; }", api.ErrUnknown)
	// A name, then the expression.
	refused(t, ahead+"enter { @r = true; } }", api.ErrKind)
	refused(t, ahead+"enter { @q = q; } }", api.ErrUnknown)
	refused(t, ahead+"enter { x = @q; q = 1; } }", api.ErrUnknown)
	// Ifs, with what stands in them.
	refused(t, ahead+"enter { if @x { q = 1; } } }", api.ErrType)
	refused(t, ahead+"enter { if true { @q = 1; } else { r = 1; } } }", api.ErrUnknown)
	refused(t, ahead+"enter { if true { x = 1; } else { @r = 1; } } }", api.ErrKind)
	refused(t, ahead+"enter { if true { x = 1; } else if @2 { } } }", api.ErrType)
	refused(t, ahead+"enter { if x @or true { } } }", api.ErrType)
	// A stage's fault comes ahead of a later declaration's, and behind an earlier one's.
	refused(t, "start s; stage s { green; next s2 when @q; } group a vehicle min 0 amber 0; stage s2 { green; }", api.ErrUnknown)
	refused(t, "@group a vehicle min 0 amber 0; start s; stage s { green; next s2 when q; }", api.ErrRange)
}

// P5.3: nexts.
func TestNextFaults(t *testing.T) {
	refused(t, "start s; stage s { green; @next s when 1; }", api.ErrSelf)
	refused(t, "start s; stage t { green; } stage s { green; next t when true; @next s when q; }", api.ErrSelf)
	refused(t, "start s; stage s { green; @next p when true; }", api.ErrUnknown)
	refused(t, "start s; stage s { green; next t when @t; } stage t { green; }", api.ErrKind)
	refused(t, "start s; stage s { green; next t when @s; } stage t { green; }", api.ErrKind)
	taken(t, "start s; stage s { green; next t when true; next t when false; } stage t { green; next s when true; }")
	for kind, text := range declared {
		if kind == api.DeStage {
			taken(t, text+" start s; stage s { green; next x when true; }")
			taken(t, "start s; stage s { green; next x when true; } "+text)
		} else {
			refused(t, text+" start s; stage s { green; @next x when true; }", api.ErrKind)
			refused(t, "start s; stage s { green; @next x when true; } "+text, api.ErrUnknown)
		}
	}
}

// P5.3: what an expression may see, wherever it stands.
func TestSeenByExpressions(t *testing.T) {
	for _, place := range [][2]string{
		{"cond z = ", " == x;"},
		{"start s; stage s { green; enter { v = abs(", "); } }"},
		{"start s; stage s { green; during { if ", " != x { } } }"},
		{"start s; stage s { green; next t when ", " == x; } stage t { green; }"},
	} {
		ahead, behind := "var v = 0; "+place[0], place[1]
		for kind, text := range declared {
			switch kind {
			case api.DeStage:
				refused(t, text+" "+ahead+"@x"+behind, api.ErrKind)
				refused(t, ahead+"@x"+behind+" "+text, api.ErrKind)
				continue
			case api.DeGroup:
				refused(t, text+" "+ahead+"@x"+behind, api.ErrKind)
			}
			refused(t, ahead+"@x"+behind+" "+text, api.ErrUnknown)
		}
		refused(t, ahead+"@p"+behind, api.ErrUnknown)
	}
	refused(t, "cond c = not @c;", api.ErrUnknown)
	refused(t, "cond c = @green(d);", api.ErrUnknown)
}

// P5.3: the type of the whole is told at its root, behind all that is wrong within.
func TestWholeType(t *testing.T) {
	refused(t, "cond c = 1 @+ 2;", api.ErrType)
	refused(t, "cond c = (1 @+ 2) ;", api.ErrType)
	refused(t, "cond c = 1 + 2 * 3 == 4 @or 5;", api.ErrType)
	refused(t, "cond c = @-1;", api.ErrType)
	refused(t, "cond c = 1 + @q;", api.ErrUnknown)
	refused(t, "var x = 0; start s; stage s { green; enter { x = 1 @< 2; } }", api.ErrType)
	refused(t, "var x = 0; start s; stage s { green; enter { if @max(1, 2) { } } }", api.ErrType)
}
