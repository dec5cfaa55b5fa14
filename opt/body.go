package opt

import (
	"slices"

	"junction/api"
)

// tidy takes away what stands beside what is known.
func tidy(k *api.Known) {
	for v := range k.Vals {
		if !isIn(k.Has, v) {
			k.Vals[v] = 0
		}
	}
}

func learn(k *api.Known, v int, w int32) {
	k.Has |= 1 << v
	k.Vals[v] = w
}

func forget(k *api.Known, v int) {
	k.Has &^= 1 << v
	k.Vals[v] = 0
}

// meet leaves of what is known just what is known there too.
func meet(k *api.Known, there api.Known) {
	for v := range k.Vals {
		if !isIn(there.Has, v) || k.Vals[v] != there.Vals[v] {
			forget(k, v)
		}
	}
}

// body makes a sound list of statements smaller. What is known ahead of it becomes what is known behind it.
func body(list []api.Stmt, k *api.Known) []api.Stmt {
	var out []api.Stmt
	for len(list) > 0 {
		s := list[0]
		switch s.Kind {
		case api.StSet:
			out = append(out, assignment(s, k)...)
			list = list[1:]
		case api.StIf:
			end := endOf(list)
			out = append(out, choice(list[:end], k)...)
			list = list[end+1:]
		default:
			out = append(out, api.Stmt{Kind: s.Kind, Ix: s.Ix})
			list = list[1:]
		}
	}
	return out
}

// assignment is the smaller statement, or none, if it would set what is so already.
func assignment(s api.Stmt, k *api.Known) []api.Stmt {
	e := fold(s.Expr, k)
	switch {
	case e.node == api.Node{Op: api.OpVar, Val: int32(s.Ix)}:
		return nil
	case !e.known():
		forget(k, s.Ix)
	case isIn(k.Has, s.Ix) && k.Vals[s.Ix] == e.word():
		return nil
	default:
		learn(k, s.Ix, e.word())
	}
	return []api.Stmt{{Kind: api.StSet, Ix: s.Ix, Expr: e.nodes()}}
}

// endOf is the place of the end of the if with which a list begins.
func endOf(list []api.Stmt) int {
	open := 0
	for i, s := range list {
		switch s.Kind {
		case api.StIf:
			open++
		case api.StEnd:
			open--
		}
		if open == 0 {
			return i
		}
	}
	return len(list)
}

// partsOf are the two parts of an if that is given without its end. The second one is empty where there is no else.
func partsOf(list []api.Stmt) ([]api.Stmt, []api.Stmt) {
	open := 0
	for i, s := range list {
		switch s.Kind {
		case api.StIf:
			open++
		case api.StEnd:
			open--
		case api.StElse:
			if open == 1 {
				return list[1:i], list[i+1:]
			}
		}
	}
	return list[1:], nil
}

// choice is what becomes of an if that is given without its end.
func choice(list []api.Stmt, k *api.Known) []api.Stmt {
	first, second := partsOf(list)
	c := fold(list[0].Expr, k)
	switch {
	case c.isKnown(1):
		return body(first, k)
	case c.isKnown(0):
		return body(second, k)
	}
	there := *k
	learnFrom(c, api.OpEq, k)
	learnFrom(c, api.OpNe, &there)
	first, second = body(first, k), body(second, &there)
	meet(k, there)
	return joined(c, first, second)
}

// learnFrom takes from a truth which word a variable is, where the truth is that relation of the two.
func learnFrom(c *term, relation int, k *api.Known) {
	if v, w, ok := c.withKnown(relation); ok && v.node.Op == api.OpVar {
		learn(k, int(v.node.Val), w)
	}
}

// joined is the if of two smaller parts.
func joined(c *term, first, second []api.Stmt) []api.Stmt {
	if sameBodies(first, second) {
		return first
	}
	if len(first) == 0 {
		if d := denied(c); d != nil {
			c, first, second = d, second, nil
		}
	}
	out := append([]api.Stmt{{Kind: api.StIf, Expr: c.nodes()}}, first...)
	if len(second) > 0 {
		out = append(append(out, api.Stmt{Kind: api.StElse}), second...)
	}
	return append(out, api.Stmt{Kind: api.StEnd})
}

func sameBodies(a, b []api.Stmt) bool { return slices.EqualFunc(a, b, sameStatements) }

// sameStatements is of statements of sound lists, which have neither names nor places.
func sameStatements(a, b api.Stmt) bool {
	return a.Kind == b.Kind && a.Ix == b.Ix && slices.Equal(a.Expr, b.Expr)
}
