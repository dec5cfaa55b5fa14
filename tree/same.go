package tree

import (
	"slices"

	"junction/api"
)

// Same tells whether two plans are the same, places aside.
func Same(p, q api.Plan) bool {
	return p.Name == q.Name && slices.EqualFunc(p.Decls, q.Decls, sameDecl)
}

func sameDecl(d, e api.Decl) bool {
	return d.Kind == e.Kind && d.Name == e.Name && d.With == e.With && d.Sort == e.Sort && d.N == e.N &&
		sameExpr(d.Expr, e.Expr) && sameStage(d.Stage, e.Stage)
}

func sameStage(s, t api.Stage) bool {
	return slices.Equal(s.Green, t.Green) && sameStmts(s.Enter, t.Enter) && sameStmts(s.During, t.During) &&
		sameStmts(s.Leave, t.Leave) && slices.EqualFunc(s.Nexts, t.Nexts, sameNext)
}

func sameStmts(a, b []api.Stmt) bool { return slices.EqualFunc(a, b, sameStmt) }

func sameStmt(s, t api.Stmt) bool {
	return s.Kind == t.Kind && s.Name == t.Name && s.Ix == t.Ix && sameExpr(s.Expr, t.Expr)
}

func sameNext(n, m api.Next) bool { return n.To == m.To && sameExpr(n.When, m.When) }

func sameExpr(a, b []api.Node) bool { return slices.EqualFunc(a, b, sameNode) }

func sameNode(n, m api.Node) bool { return bareNode(n) == bareNode(m) }
