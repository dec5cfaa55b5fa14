package tree

import (
	"junction/api"
	"junction/lex"
)

// FormedExpr tells whether an expression is one that ParseExpr could give, places aside.
func FormedExpr(e []api.Node) bool {
	if len(e) > api.MaxNodes {
		return false
	}
	if nest := Nest(e); nest < 0 || nest > api.MaxDepth {
		return false
	}
	for _, n := range e {
		if !formedNode(n) {
			return false
		}
	}
	return true
}

// formedNode looks at a node whose Op is known to be one.
func formedNode(n api.Node) bool {
	switch n.Op {
	case api.OpInt:
		return n.Val >= 0 && n.Name == ""
	case api.OpBool:
		return (n.Val == 0 || n.Val == 1) && n.Name == ""
	case api.OpName, api.OpGreen, api.OpRed:
		return n.Val == 0 && isName(n.Name)
	case api.OpVar, api.OpTimer, api.OpCounter, api.OpDet:
		return false
	}
	return n.Val == 0 && n.Name == ""
}

func isName(word string) bool { return lex.KindOf(word) == api.TkName }

// Formed tells whether a plan is one that Parse could give, places aside.
func Formed(p api.Plan) bool {
	if !isName(p.Name) {
		return false
	}
	for _, d := range p.Decls {
		if !formedDecl(d) {
			return false
		}
	}
	return true
}

func formedDecl(d api.Decl) bool {
	if d.Kind < api.DeConst || d.Kind > api.DeStart {
		return false
	}
	return isName(d.Name) && formedWith(d) && formedSort(d) && formedNumbers(d) && formedCondition(d) && formedStage(d)
}

func formedWith(d api.Decl) bool {
	if d.Kind == api.DeConflict {
		return isName(d.With)
	}
	return d.With == ""
}

func formedSort(d api.Decl) bool {
	switch d.Kind {
	case api.DeGroup:
		return d.Sort == api.Vehicle || d.Sort == api.Pedestrian
	case api.DeDetector:
		return d.Sort == 0 || d.Sort == 1
	}
	return d.Sort == 0
}

func formedNumbers(d api.Decl) bool {
	used, least := 0, int32(0)
	switch d.Kind {
	case api.DeConst, api.DeVar:
		used, least = 1, -api.MaxWord
	case api.DeGroup:
		used = 3
	case api.DeConflict, api.DeDetector:
		used = 2
	}
	for i, n := range d.N {
		if i < used && n < least || i >= used && n != 0 {
			return false
		}
	}
	return true
}

func formedCondition(d api.Decl) bool {
	if d.Kind == api.DeCond {
		return FormedExpr(d.Expr)
	}
	return len(d.Expr) == 0
}

func formedStage(d api.Decl) bool {
	s := d.Stage
	if d.Kind != api.DeStage {
		return len(s.Green) == 0 && len(s.Enter) == 0 && len(s.During) == 0 && len(s.Leave) == 0 && len(s.Nexts) == 0
	}
	for _, name := range s.Green {
		if !isName(name) {
			return false
		}
	}
	for _, n := range s.Nexts {
		if !isName(n.To) || !FormedExpr(n.When) {
			return false
		}
	}
	return formedList(s.Enter) && formedList(s.During) && formedList(s.Leave)
}

// formedList looks at each statement, and at the ifs as at brackets.
func formedList(list []api.Stmt) bool {
	var hasElse [api.MaxBlocks]bool // of each if that is open
	open := 0
	for _, s := range list {
		if !formedStmt(s) {
			return false
		}
		switch s.Kind {
		case api.StIf:
			if open == api.MaxBlocks {
				return false
			}
			hasElse[open] = false
			open++
		case api.StElse:
			if open == 0 || hasElse[open-1] {
				return false
			}
			hasElse[open-1] = true
		case api.StEnd:
			if open == 0 {
				return false
			}
			open--
		}
	}
	return open == 0
}

// formedStmt looks at a statement by itself.
func formedStmt(s api.Stmt) bool {
	if s.Ix != 0 {
		return false
	}
	switch s.Kind {
	case api.StSet:
		return isName(s.Name) && FormedExpr(s.Expr)
	case api.StReset, api.StRun, api.StStop, api.StCount, api.StClear:
		return isName(s.Name) && len(s.Expr) == 0
	case api.StIf:
		return s.Name == "" && FormedExpr(s.Expr)
	case api.StElse, api.StEnd:
		return s.Name == "" && len(s.Expr) == 0
	}
	return false
}
