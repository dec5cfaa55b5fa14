package tree

import "junction/api"

// Bare is a plan without its places.
func Bare(p api.Plan) api.Plan {
	return api.Plan{Name: p.Name, Decls: changed(p.Decls, bareDecl)}
}

// changed is a new list of what each element becomes.
func changed[T any](list []T, change func(T) T) []T {
	out := make([]T, len(list))
	for i, x := range list {
		out[i] = change(x)
	}
	return out
}

func bareDecl(d api.Decl) api.Decl {
	d.At = api.Pos{}
	d.Expr = changed(d.Expr, bareNode)
	d.Stage = bareStage(d.Stage)
	return d
}

func bareStage(s api.Stage) api.Stage {
	return api.Stage{
		Green:  append([]string(nil), s.Green...),
		Enter:  changed(s.Enter, bareStmt),
		During: changed(s.During, bareStmt),
		Leave:  changed(s.Leave, bareStmt),
		Nexts:  changed(s.Nexts, bareNext),
	}
}

func bareStmt(s api.Stmt) api.Stmt {
	s.At = api.Pos{}
	s.Expr = changed(s.Expr, bareNode)
	return s
}

func bareNext(n api.Next) api.Next {
	n.At = api.Pos{}
	n.When = changed(n.When, bareNode)
	return n
}

func bareNode(n api.Node) api.Node {
	n.At = api.Pos{}
	return n
}
