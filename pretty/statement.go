package pretty

import "junction/api"

// The kinds of statements. An if's else and end are its own.
type (
	assignment api.Stmt
	command    struct{ word, name string }

	// choice is all of an if, up to its end.
	choice struct {
		asks    []api.Node
		first   []printable
		hasElse bool
		second  []printable
	}
)

// statements hangs what is within an if on it: the list that is handed in is flat.
func statements(list []api.Stmt) []printable {
	f := flat{list: list}
	return f.block()
}

// flat is a list of statements, gone through from its begin.
type flat struct {
	list []api.Stmt
	at   int
}

// block reads as far as the else or the end of the if that it is within, or to the list's end.
func (f *flat) block() []printable {
	var out []printable
	for f.at < len(f.list) {
		s := f.list[f.at]
		if s.Kind == api.StElse || s.Kind == api.StEnd {
			break
		}
		f.at++
		out = append(out, f.statement(s))
	}
	return out
}

func (f *flat) statement(s api.Stmt) printable {
	switch s.Kind {
	case api.StSet:
		return assignment(s)
	case api.StReset:
		return command{"reset ", s.Name}
	case api.StRun:
		return command{"run ", s.Name}
	case api.StStop:
		return command{"stop ", s.Name}
	case api.StCount:
		return command{"count ", s.Name}
	case api.StClear:
		return command{"clear ", s.Name}
	}
	return f.choice(s)
}

// choice reads the rest of an if: behind each of its parts there is its else or its end, as the list is well formed.
func (f *flat) choice(s api.Stmt) choice {
	c := choice{asks: s.Expr, first: f.block()}
	if f.list[f.at].Kind == api.StElse {
		f.at++
		c.hasElse = true
		c.second = f.block()
	}
	f.at++
	return c
}

func (s assignment) printTo(out *printer) { out.line(s.Name, " = ", expressionText(s.Expr), ";") }

func (c command) printTo(out *printer) { out.line(c.word, c.name, ";") }

func (c choice) printTo(out *printer) {
	out.line("if ", expressionText(c.asks), " {")
	c.printParts(out)
	out.line("}")
}

// printParts leaves out the first line and the last one: those of a chain are not those of an if that stands alone.
func (c choice) printParts(out *printer) {
	out.deeper(c.first...)
	if !c.hasElse {
		return
	}
	if inner, ok := c.chained(); ok {
		out.line("} else if ", expressionText(inner.asks), " {")
		inner.printParts(out)
		return
	}
	out.line("} else {")
	out.deeper(c.second...)
}

// chained is the if that is all of an if's second part.
func (c choice) chained() (choice, bool) {
	if len(c.second) != 1 {
		return choice{}, false
	}
	inner, ok := c.second[0].(choice)
	return inner, ok
}
