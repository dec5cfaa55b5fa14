package pretty

import (
	"junction/api"
	"junction/arith"
)

// The kinds of declarations.
type (
	constant  api.Decl
	group     api.Decl
	conflict  api.Decl
	detector  api.Decl
	timer     api.Decl
	counter   api.Decl
	variable  api.Decl
	condition api.Decl
	stage     api.Decl
	start     api.Decl
)

// declaration takes a well-formed one alone, which is of one of the kinds.
func declaration(d api.Decl) printable {
	switch d.Kind {
	case api.DeConst:
		return constant(d)
	case api.DeGroup:
		return group(d)
	case api.DeConflict:
		return conflict(d)
	case api.DeDetector:
		return detector(d)
	case api.DeTimer:
		return timer(d)
	case api.DeCounter:
		return counter(d)
	case api.DeVar:
		return variable(d)
	case api.DeCond:
		return condition(d)
	case api.DeStage:
		return stage(d)
	}
	return start(d)
}

func (d constant) printTo(out *printer) { out.line("const ", d.Name, " = ", arith.Text(d.N[0]), ";") }

func (d group) printTo(out *printer) {
	sort := " vehicle"
	if d.Sort == api.Pedestrian {
		sort = " pedestrian"
	}
	out.line("group ", d.Name, sort, " min ", arith.Text(d.N[0]), " amber ", arith.Text(d.N[1]), option(" lead ", d.N[2]), ";")
}

func (d conflict) printTo(out *printer) {
	out.line("conflict ", d.Name, " ", d.With, " ", arith.Text(d.N[0]), " ", arith.Text(d.N[1]), ";")
}

func (d detector) printTo(out *printer) {
	latch := ""
	if d.Sort == 1 {
		latch = " latch"
	}
	out.line("detector ", d.Name, latch, option(" delay ", d.N[0]), option(" hold ", d.N[1]), ";")
}

// option is a word with its number; 0 is what the word's absence says.
func option(word string, n int32) string {
	if n == 0 {
		return ""
	}
	return word + arith.Text(n)
}

func (d timer) printTo(out *printer) { out.line("timer ", d.Name, ";") }

func (d counter) printTo(out *printer) { out.line("counter ", d.Name, ";") }

func (d variable) printTo(out *printer) { out.line("var ", d.Name, " = ", arith.Text(d.N[0]), ";") }

func (d condition) printTo(out *printer) {
	out.line("cond ", d.Name, " = ", expressionText(d.Expr), ";")
}

func (d start) printTo(out *printer) { out.line("start ", d.Name, ";") }

func (d stage) printTo(out *printer) {
	out.line("stage ", d.Name, " {")
	out.deeper(green(d.Stage.Green), block{"enter", d.Stage.Enter}, block{"during", d.Stage.During}, block{"leave", d.Stage.Leave})
	for _, n := range d.Stage.Nexts {
		out.deeper(next(n))
	}
	out.line("}")
}

// The parts of a stage.
type (
	green []string
	block struct {
		word string
		list []api.Stmt
	}
	next api.Next
)

func (names green) printTo(out *printer) {
	pieces := []string{"green"}
	ahead := " "
	for _, name := range names {
		pieces = append(pieces, ahead, name)
		ahead = ", "
	}
	out.line(append(pieces, ";")...)
}

func (b block) printTo(out *printer) {
	if len(b.list) == 0 {
		return
	}
	out.line(b.word, " {")
	out.deeper(statements(b.list)...)
	out.line("}")
}

func (n next) printTo(out *printer) {
	out.line("next ", n.To, " when ", expressionText(n.When), ";")
}
