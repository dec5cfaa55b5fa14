package tree_test

// A second reader of the grammar, for the tests: it takes the grammar's text as the chapter has it, and knows of a list of tokens what may come next, and what the limits say. It makes no tree.

import (
	"slices"
	"strings"

	"junction/api"
	"junction/lex"
)

const grammar = `
plan    = "plan" name "{" {decl} "}" end
decl    = "const" name "=" int ";"
        | "group" name ("vehicle" | "pedestrian") "min" num "amber" num ["lead" num] ";"
        | "conflict" name name num num ";"
        | "detector" name ["latch"] ["delay" num] ["hold" num] ";"
        | "timer" name ";"
        | "counter" name ";"
        | "var" name "=" int ";"
        | "cond" name "=" expr ";"
        | "start" name ";"
        | "stage" name "{" green ["enter" block] ["during" block] ["leave" block] {next} "}"
int     = ["-"] num
green   = "green" [name {"," name}] ";"
next    = "next" name "when" expr ";"
block   = "{" {stmt} "}"
stmt    = name "=" expr ";"
        | ("reset" | "run" | "stop" | "count" | "clear") name ";"
        | if
if      = "if" expr block ["else" (block | if)]

expr    = and {"or" and}
and     = not {"and" not}
not     = "not" not | rel
rel     = sum [("==" | "!=" | "<" | "<=" | ">" | ">=") sum]
sum     = prod {("+" | "-") prod}
prod    = unary {("*" | "/" | "%") unary}
unary   = "-" unary | prim
prim    = num | "true" | "false" | "elapsed" | name
        | ("green" | "red") "(" name ")"
        | ("min" | "max") "(" expr "," expr ")"
        | "abs" "(" expr ")"
        | "(" expr ")"
alone   = expr end
`

// part is a piece of the grammar: a token (of that kind), a rule (by its name), or several parts: in a row, one of them, at most once, any number of times.
type part struct {
	sort  byte // 't', 'r', 's', '|', '[', '{'
	kind  int
	rule  string
	parts []*part
}

// rules are the grammar's rules by their names.
var rules = readRules(strings.Fields(spaced(grammar)))

// spaced puts blanks around the signs of the grammar that stand outside of quotes.
func spaced(text string) string {
	var b strings.Builder
	quoted := false
	for _, c := range text {
		if c == '"' {
			quoted = !quoted
		}
		if !quoted && strings.ContainsRune("[]{}()|=", c) {
			b.WriteString(" " + string(c) + " ")
		} else {
			b.WriteRune(c)
		}
	}
	return b.String()
}

func readRules(words []string) map[string]*part {
	out := map[string]*part{}
	for len(words) > 0 {
		end := 2
		for end < len(words) && (end+1 >= len(words) || words[end+1] != "=") {
			end++
		}
		body := words[2:end]
		out[words[0]] = readChoice(&body)
		words = words[end:]
	}
	return out
}

func readChoice(words *[]string) *part {
	choice := &part{sort: '|', parts: []*part{{sort: 's'}}}
	for len(*words) > 0 {
		w := (*words)[0]
		if strings.Contains("])}", w) {
			break
		}
		*words = (*words)[1:]
		last := choice.parts[len(choice.parts)-1]
		switch {
		case w == "|":
			choice.parts = append(choice.parts, &part{sort: 's'})
		case w == "[" || w == "{" || w == "(":
			inner := readChoice(words)
			*words = (*words)[1:]
			if w != "(" {
				inner = &part{sort: w[0], parts: []*part{inner}}
			}
			last.parts = append(last.parts, inner)
		case w[0] == '"':
			last.parts = append(last.parts, &part{sort: 't', kind: lex.KindOf(strings.Trim(w, `"`))})
		case w == "name":
			last.parts = append(last.parts, &part{sort: 't', kind: api.TkName})
		case w == "num":
			last.parts = append(last.parts, &part{sort: 't', kind: api.TkNumber})
		case w == "end":
			last.parts = append(last.parts, &part{sort: 't', kind: api.TkEnd})
		default:
			last.parts = append(last.parts, &part{sort: 'r', rule: w})
		}
	}
	return choice
}

// rest is what must still come: a part and then more.
type rest struct {
	part *part
	more *rest
}

// ways are all the ways in which a text can go on; each begins with a token.
type ways []*rest

func begin(rule string) ways { return ways(nil).with(rules[rule], nil) }

// with adds the ways that begin with the part.
func (w ways) with(p *part, more *rest) ways {
	switch p.sort {
	case 't':
		return append(w, &rest{p, more})
	case 'r':
		return w.with(rules[p.rule], more)
	case 's':
		for _, q := range slices.Backward(p.parts) {
			more = &rest{q, more}
		}
		return w.then(more)
	case '|':
		for _, q := range p.parts {
			w = w.with(q, more)
		}
		return w
	case '[':
		return w.with(p.parts[0], more).then(more)
	}
	return w.with(p.parts[0], &rest{p, more}).then(more)
}

// then adds the ways that begin with the rest.
func (w ways) then(more *rest) ways {
	if more == nil {
		return w
	}
	return w.with(more.part, more.more)
}

// behind are the ways to go on behind a token: none, if it may not come.
func (w ways) behind(kind int) ways {
	var out ways
	for _, r := range w {
		if r.part.kind == kind {
			out = out.then(r.more)
		}
	}
	return out
}

func (w ways) allow(kind int) bool {
	return slices.ContainsFunc(w, func(r *rest) bool { return r.part.kind == kind })
}

// kinds are the tokens that may come, in the order of their numbers.
func (w ways) kinds() []int {
	var out []int
	for _, r := range w {
		out = append(out, r.part.kind)
	}
	slices.Sort(out)
	return slices.Compact(out)
}

// binders are the tokens behind which an operand must come.
var binders = []int{api.TkBad, api.TkLeft, api.TkComma, api.TkOr, api.TkAnd, api.TkNot, api.TkEq, api.TkNe, api.TkLt, api.TkLe, api.TkGt, api.TkGe, api.TkPlus, api.TkMinus, api.TkStar, api.TkSlash, api.TkPercent, api.TkSet, api.TkWhen, api.TkIf}

// counter goes over the kinds of tokens that the grammar takes and counts what is open and what nodes there are, by the looks of the tokens alone.
type counter struct {
	kinds  []int
	inside bool  // in an expression
	open   []int // its brackets and prefixes
	most   int   // of them at once
	nodes  int   // of the expression
	blocks []int // braces and ifs
}

// at is the kind of the i-th token, TkBad where there is none.
func (c *counter) at(i int) int {
	if i < 0 || i >= len(c.kinds) {
		return api.TkBad
	}
	return c.kinds[i]
}

// colour tells whether the token that stands so far ahead is a green or red of an expression.
func (c *counter) colour(i int) bool { return c.at(i) == api.TkGreen || c.at(i) == api.TkRed }

func (c *counter) opens(i int) bool {
	return c.at(i) == api.TkNot || c.at(i) == api.TkMinus && slices.Contains(binders, c.at(i-1)) || c.at(i) == api.TkLeft && !c.colour(i-1)
}

func (c *counter) makes(i int) bool {
	switch c.at(i) {
	case api.TkLeft, api.TkRight, api.TkComma, api.TkSemi, api.TkOpen, api.TkEnd:
		return false
	}
	return !c.colour(i - 2)
}

// passes counts the i-th token in and tells which limit it passes, if it passes one.
func (c *counter) passes(i int) api.Errno {
	kind, e := c.at(i), api.OK
	ifs := len(c.blocks) - len(slices.DeleteFunc(slices.Clone(c.blocks), func(b int) bool { return b == api.TkIf }))
	switch {
	case kind == api.TkIf && ifs == api.MaxBlocks:
		e = api.ErrDeep
	case c.inside && c.opens(i) && len(c.open) == api.MaxDepth:
		e = api.ErrDeep
	case c.inside && c.makes(i) && c.nodes == api.MaxNodes:
		e = api.ErrNodes
	}
	if c.inside {
		c.count(i)
	}
	c.bound(i)
	return e
}

// count counts a token of an expression.
func (c *counter) count(i int) {
	if c.makes(i) {
		c.nodes++
	}
	switch kind := c.at(i); {
	case c.opens(i):
		c.open = append(c.open, kind)
		c.most = max(c.most, len(c.open))
	case c.colour(i), c.colour(i - 1), c.colour(i - 2):
	case c.colour(i - 3), kind == api.TkName, kind == api.TkNumber, kind == api.TkTrue, kind == api.TkFalse, kind == api.TkElapsed:
		c.open = dropLast(c.open, api.TkMinus)
	case kind == api.TkAnd, kind == api.TkOr, kind == api.TkComma:
		c.open = dropLast(c.open, api.TkNot)
	case kind == api.TkRight:
		c.open = dropLast(c.open, api.TkNot)
		c.open = dropLast(c.open[:len(c.open)-1], api.TkMinus)
	}
}

// bound looks where expressions and blocks begin and end.
func (c *counter) bound(i int) {
	switch kind := c.at(i); kind {
	case api.TkSet, api.TkWhen:
		c.inside, c.open, c.nodes = true, nil, 0
	case api.TkIf:
		c.inside, c.open, c.nodes = true, nil, 0
		c.blocks = append(c.blocks, kind)
	case api.TkSemi:
		c.inside = false
	case api.TkOpen:
		c.inside = false
		c.blocks = append(c.blocks, kind)
	case api.TkClose:
		c.blocks = c.blocks[:len(c.blocks)-1]
		if c.at(i+1) != api.TkElse {
			c.blocks = dropLast(c.blocks, api.TkIf)
		}
	}
}

// dropLast takes from the end of a list all that are of that kind.
func dropLast(list []int, kind int) []int {
	for len(list) > 0 && list[len(list)-1] == kind {
		list = list[:len(list)-1]
	}
	return list
}

// modelFault is the fault of a text by that rule of the grammar: plan, or alone.
func modelFault(rule, src string) api.Fault {
	tokens, fault := lex.Scan(src)
	if fault != (api.Fault{}) {
		return fault
	}
	c := counter{inside: rule == "alone"}
	for _, t := range tokens {
		c.kinds = append(c.kinds, t.Kind)
	}
	w := begin(rule)
	for i, t := range tokens {
		if !w.allow(t.Kind) {
			return api.Fault{Code: api.ErrToken, At: t.At}
		}
		if e := c.passes(i); e != api.OK {
			return api.Fault{Code: e, At: t.At}
		}
		w = w.behind(t.Kind)
	}
	return api.Fault{}
}

// modelNest is how much is open at once, at most, in the text of an expression that is taken.
func modelNest(src string) int {
	tokens, _ := lex.Scan(src)
	c := counter{inside: true}
	for _, t := range tokens {
		c.kinds = append(c.kinds, t.Kind)
	}
	for i := range tokens {
		c.passes(i)
	}
	return c.most
}
