package opt

import (
	"junction/api"
	"junction/arith"
)

// walk goes over the tree of a sound expression, operands first, and makes of each node one thing out of those that it has made of the node's operands. The list of these is lent: it is written over behind the call.
func walk[T any](e []api.Node, of func(n api.Node, operands []T) T) T {
	var stack []T
	for _, n := range e {
		from := len(stack) - arith.Arity(n.Op)
		one := of(n, stack[from:])
		stack = append(stack[:from], one)
	}
	return stack[0]
}

// worklist holds what is still to be looked at.
type worklist[T any] struct {
	waiting []T
}

func (w *worklist[T]) put(item T) { w.waiting = append(w.waiting, item) }

// all takes out one item after the other, those too that are put in on the way.
func (w *worklist[T]) all(yield func(T) bool) {
	for len(w.waiting) > 0 {
		last := len(w.waiting) - 1
		item := w.waiting[last]
		w.waiting = w.waiting[:last]
		if !yield(item) {
			return
		}
	}
}
