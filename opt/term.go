package opt

import "junction/api"

// term is a folded expression: a tree that is never written to once it is made, so that its parts may become parts of others.
type term struct {
	node          api.Node
	first, second *term // its operands; nil, what it has not
	is            span
	size          int // nodes of the whole
}

func leaf(n api.Node, is span) *term { return &term{node: n, is: is, size: 1} }

func number(w int32) *term { return leaf(api.Node{Op: api.OpInt, Val: w}, only(w)) }

func truth(w int32) *term { return leaf(api.Node{Op: api.OpBool, Val: w}, only(w)) }

// word is a known term of the kind that an operator makes.
func word(op int, w int32) *term {
	if op == api.OpNot || op >= api.OpEq {
		return truth(w)
	}
	return number(w)
}

func (t *term) known() bool { return t.node.Op == api.OpInt || t.node.Op == api.OpBool }

// word is what a known term is worth.
func (t *term) word() int32 { return t.node.Val }

func (t *term) isKnown(w int32) bool { return t.known() && t.word() == w }

func (t *term) isRelation() bool { return t.node.Op >= api.OpEq && t.node.Op <= api.OpGe }

// withKnown takes a term apart that is that operator of some term and a known one: a folded term has the known one behind the other.
func (t *term) withKnown(op int) (*term, int32, bool) {
	if t.node.Op != op || !t.second.known() {
		return nil, 0, false
	}
	return t.first, t.second.word(), true
}

// equals tells whether two terms are the same expression. (As trees are told by their lists, node by node is enough.)
func (t *term) equals(o *term) bool {
	if t == o {
		return true
	}
	if t == nil || o == nil || t.size != o.size || t.node != o.node {
		return false
	}
	return t.first.equals(o.first) && t.second.equals(o.second)
}

// nodes is the expression as a list.
func (t *term) nodes() []api.Node {
	return t.appendTo(make([]api.Node, 0, t.size))
}

func (t *term) appendTo(list []api.Node) []api.Node {
	if t.first != nil {
		list = t.first.appendTo(list)
	}
	if t.second != nil {
		list = t.second.appendTo(list)
	}
	return append(list, t.node)
}
