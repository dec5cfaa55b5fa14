package tree

import (
	"slices"

	"junction/api"
)

// reader goes over the tokens of a text by the grammar. It gives up by a panic with the fault, from however deep; whoever made it catches that.
type reader struct {
	tokens []api.Token              // TkEnd last
	at     int                      // where the token is that comes next
	levels [levelPrimary + 1]func() // what reads an expression of each level

	// Of the expression that is being read:
	nodes []api.Node
	made  int // nodes whose token has come: a sign's counts from there on, though it stands behind its operands
	open  int // brackets and prefixes that are open

	ifs int // ifs that are open
}

func newReader(tokens []api.Token) *reader {
	r := &reader{tokens: tokens}
	r.levels = [...]func(){
		levelOr:       r.or,
		levelAnd:      r.and,
		levelNot:      r.not,
		levelRelation: r.relation,
		levelSum:      r.sum,
		levelProduct:  r.product,
		levelNegation: r.negation,
		levelPrimary:  r.primary,
	}
	return r
}

func giveUp(e api.Errno, t api.Token) { panic(api.Fault{Code: e, At: t.At}) }

// sees tells whether the token that comes next is of one of the kinds.
func (r *reader) sees(kinds ...int) bool { return slices.Contains(kinds, r.tokens[r.at].Kind) }

// take reads a token of one of the kinds: no other one may stand there.
func (r *reader) take(kinds ...int) api.Token {
	t := r.tokens[r.at]
	if !slices.Contains(kinds, t.Kind) {
		giveUp(api.ErrToken, t)
	}
	r.at++
	return t
}

// takeIf reads a token that may be left out, and tells whether it was there.
func (r *reader) takeIf(kind int) bool {
	if !r.sees(kind) {
		return false
	}
	r.take(kind)
	return true
}

func (r *reader) name() string { return r.take(api.TkName).Text }

func (r *reader) number() int32 { return r.take(api.TkNumber).Num }

// lastPlace is where the token is that was read last.
func (r *reader) lastPlace() api.Pos { return r.tokens[r.at-1].At }
