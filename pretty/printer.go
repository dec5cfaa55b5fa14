package pretty

import (
	"strings"

	"junction/api"
)

// printable is a declaration, a statement or a node: each kind of them is a type that prints itself.
type printable interface {
	printTo(out *printer)
}

// printer lays out a text, line by line.
type printer struct {
	text  strings.Builder
	depth int
}

// add writes pieces of a line.
func (out *printer) add(pieces ...string) {
	for _, piece := range pieces {
		// What is too long is refused: it need not take more room than a text may have.
		if out.tooLong() {
			return
		}
		out.text.WriteString(piece)
	}
}

// line writes a whole line at the depth where the printer is.
func (out *printer) line(pieces ...string) {
	out.add(strings.Repeat("\t", out.depth))
	out.add(pieces...)
	out.add("\n")
}

func (out *printer) tooLong() bool { return out.text.Len() > api.MaxSource }

// deeper prints what stands within braces.
func (out *printer) deeper(list ...printable) {
	out.depth++
	for _, x := range list {
		x.printTo(out)
	}
	out.depth--
}

func (out *printer) plan(p api.Plan) {
	out.line("plan ", p.Name, " {")
	for _, d := range p.Decls {
		out.deeper(declaration(d))
	}
	out.line("}")
}
