package pretty_test

import (
	"math/rand"
	"strings"

	"junction/api"
)

func pick[T any](r *rand.Rand, list ...T) T { return list[r.Intn(len(list))] }

func anyName(r *rand.Rand) string {
	return pick(r, "a", "b", "t", "Plan", "min_", "elapsed2", "x_1", "Z", strings.Repeat("w", api.MaxName))
}

func anyCount(r *rand.Rand) int32 { return pick(r, 0, 0, 1, 9, 10, 61, 3600, api.MaxWord, r.Int31()) }

func anyLeaf(r *rand.Rand) api.Node {
	return pick(r,
		api.Node{Op: api.OpInt, Val: anyCount(r)},
		api.Node{Op: api.OpBool, Val: r.Int31n(2)},
		api.Node{Op: api.OpName, Name: anyName(r)},
		api.Node{Op: api.OpElapsed},
		api.Node{Op: api.OpGreen, Name: anyName(r)},
		api.Node{Op: api.OpRed, Name: anyName(r)})
}

// anyExpr is a tree of so many nodes.
func anyExpr(r *rand.Rand, size int) []api.Node {
	switch {
	case size < 2:
		return []api.Node{anyLeaf(r)}
	case size == 2 || r.Intn(3) == 0:
		return over(pick(r, prefixOps...), anyExpr(r, size-1))
	}
	first := 1 + r.Intn(size-2)
	return over(pick(r, pairOps...), anyExpr(r, first), anyExpr(r, size-1-first))
}

func shortExpr(r *rand.Rand) []api.Node { return anyExpr(r, 1+r.Intn(8)) }

// anyIf is a whole if, within which so many more may be open at once.
func anyIf(r *rand.Rand, room int) []api.Stmt {
	list := append([]api.Stmt{{Kind: api.StIf, Expr: shortExpr(r)}}, anyStmts(r, room)...)
	switch r.Intn(4) {
	case 0:
		list = append(append(list, api.Stmt{Kind: api.StElse}), anyStmts(r, room)...)
	case 1:
		if room > 0 {
			list = append(append(list, api.Stmt{Kind: api.StElse}), anyIf(r, room-1)...)
		}
	}
	return append(list, api.Stmt{Kind: api.StEnd})
}

func anyStmts(r *rand.Rand, room int) []api.Stmt {
	var list []api.Stmt
	for range r.Intn(4) {
		switch r.Intn(3) {
		case 0:
			list = append(list, api.Stmt{Kind: api.StSet, Name: anyName(r), Expr: shortExpr(r)})
		case 1:
			list = append(list, api.Stmt{Kind: pick(r, api.StReset, api.StRun, api.StStop, api.StCount, api.StClear), Name: anyName(r)})
		case 2:
			if room > 0 {
				list = append(list, anyIf(r, room-1)...)
			}
		}
	}
	return list
}

func anyStage(r *rand.Rand) api.Stage {
	var s api.Stage
	for range r.Intn(4) {
		s.Green = append(s.Green, anyName(r))
	}
	for range r.Intn(4) {
		s.Nexts = append(s.Nexts, api.Next{To: anyName(r), When: shortExpr(r)})
	}
	for _, list := range []*[]api.Stmt{&s.Enter, &s.During, &s.Leave} {
		*list = anyStmts(r, 4)
	}
	return s
}

func anyDecl(r *rand.Rand) api.Decl {
	d := api.Decl{Kind: 1 + r.Intn(10), Name: anyName(r)}
	switch d.Kind {
	case api.DeConst, api.DeVar:
		d.N[0] = anyCount(r) * pick[int32](r, 1, -1)
	case api.DeGroup:
		d.Sort, d.N = pick(r, api.Vehicle, api.Pedestrian), [3]int32{anyCount(r), anyCount(r), anyCount(r)}
	case api.DeConflict:
		d.With, d.N = anyName(r), [3]int32{anyCount(r), anyCount(r)}
	case api.DeDetector:
		d.Sort, d.N = r.Intn(2), [3]int32{anyCount(r), anyCount(r)}
	case api.DeCond:
		d.Expr = shortExpr(r)
	case api.DeStage:
		d.Stage = anyStage(r)
	}
	return d
}

// anyPlan is a well-formed plan without places.
func anyPlan(r *rand.Rand) api.Plan {
	p := api.Plan{Name: anyName(r)}
	for range r.Intn(8) {
		p.Decls = append(p.Decls, anyDecl(r))
	}
	return p
}
