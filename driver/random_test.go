package driver_test

// Plans, sources and inputs at random.

import (
	"fmt"
	"math/rand"
	"slices"

	"junction/api"
)

// planner makes plans that may run, but that of names, types and the like one choice in so many is a wrong one (0: none), of what safety looks at another one in so many. Everything has a place of its own.
type planner struct {
	r      *rand.Rand
	wrong  int
	unsafe int
	places int
	decls  []api.Decl
	foes   map[[2]string]bool
	greens [][]string // of each stage
}

func (g *planner) slip() bool { return g.wrong > 0 && g.r.Intn(g.wrong) == 0 }

func (g *planner) dare() bool { return g.unsafe > 0 && g.r.Intn(g.unsafe) == 0 }

func (g *planner) here() api.Pos {
	g.places++
	return at(g.places, 1+g.r.Intn(99))
}

// names are those of some kinds that are declared so far.
func (g *planner) names(kinds ...int) []string {
	var list []string
	for _, d := range g.decls {
		if slices.Contains(kinds, d.Kind) {
			list = append(list, d.Name)
		}
	}
	return list
}

// name is one of those, or "" if there is none.
func (g *planner) name(kinds ...int) string {
	if g.slip() {
		return pick(g.r, "g0", "d0", "v0", "s0", "x")
	}
	if list := g.names(kinds...); len(list) > 0 {
		return pick(g.r, list...)
	}
	return ""
}

// thing is a declaration that names nothing.
func (g *planner) thing(kind, number int) api.Decl {
	d := api.Decl{Kind: kind, Name: fmt.Sprint("?kg?dtcv"[kind:kind+1], number), At: g.here()}
	switch kind {
	case api.DeConst, api.DeVar:
		d.N[0] = pick[int32](g.r, 0, 1, -1, 2, 3, 9, 200, -200, 1<<31-1, -(1<<31 - 1))
	case api.DeDetector:
		d.Sort, d.N = g.r.Intn(2), [3]int32{pick[int32](g.r, 0, 0, 1, 2), pick[int32](g.r, 0, 0, 1, 3)}
	case api.DeGroup:
		d.Sort, d.N = api.Vehicle, [3]int32{5 + g.r.Int31n(3), 3 + g.r.Int31n(2), g.r.Int31n(4)}
		if g.r.Intn(3) == 0 {
			d.Sort, d.N = api.Pedestrian, [3]int32{4 + g.r.Int31n(3), g.r.Int31n(4), 0}
		}
		if g.dare() {
			d.N[g.r.Intn(3)] = pick[int32](g.r, 1, 2, 4, 60)
		}
	}
	return d
}

// conflict is one of two groups, named in either order.
func (g *planner) conflict(a, b api.Decl) api.Decl {
	if g.r.Intn(2) == 0 {
		a, b = b, a
	}
	d := api.Decl{Kind: api.DeConflict, Name: a.Name, With: b.Name, At: g.here()}
	d.N[0], d.N[1] = a.N[1]+g.r.Int31n(4), b.N[1]+g.r.Int31n(4)
	if g.dare() {
		d.N[g.r.Intn(2)] = pick[int32](g.r, 0, 2, 3597, 3600, 3600, 3600)
	}
	g.foes[[2]string{a.Name, b.Name}], g.foes[[2]string{b.Name, a.Name}] = true, true
	return d
}

func (g *planner) leaf(typ int) []api.Node {
	n := api.Node{At: g.here(), Op: api.OpName}
	switch g.r.Intn(4) + 4*(typ-api.TyInt) {
	case 0, 1:
		n.Name = g.name(api.DeConst, api.DeVar, api.DeTimer, api.DeCounter)
	case 2:
		n.Op = api.OpElapsed
	case 4, 5:
		n.Name = g.name(api.DeDetector, api.DeCond)
	case 6:
		n.Op, n.Name = pick(g.r, api.OpGreen, api.OpRed), g.name(api.DeGroup)
	}
	if n.Name == "" && n.Op != api.OpElapsed {
		n.Op, n.Val = api.OpInt, g.r.Int31n(9)
		if typ == api.TyBool {
			n.Op, n.Val = api.OpBool, g.r.Int31n(2)
		}
	}
	return []api.Node{n}
}

// expr is an expression of a type, of at most that many nodes.
func (g *planner) expr(typ, size int) []api.Node {
	if g.slip() {
		typ = api.TyInt + api.TyBool - typ
	}
	if size < 2 {
		return g.leaf(typ)
	}
	unary, binary, takes := pick(g.r, api.OpNeg, api.OpAbs), api.OpAdd+g.r.Intn(7), api.TyInt
	if typ == api.TyBool {
		unary, binary = api.OpNot, pick(g.r, api.OpEq+g.r.Intn(6), api.OpAnd, api.OpOr)
		if binary >= api.OpAnd {
			takes = api.TyBool
		}
	}
	if size == 2 || g.r.Intn(6) == 0 {
		return append(g.expr(typ, size-1), api.Node{Op: unary, At: g.here()})
	}
	first := 1 + g.r.Intn(size-2)
	return append(append(g.expr(takes, first), g.expr(takes, size-1-first)...), api.Node{Op: binary, At: g.here()})
}

func (g *planner) list(deep int) []api.Stmt {
	var list []api.Stmt
	for range g.r.Intn(3) {
		s := api.Stmt{Kind: 1 + g.r.Intn(6), At: g.here()}
		s.Name = g.name(map[int][]int{api.StSet: {api.DeVar}, api.StReset: {api.DeTimer, api.DeCounter}, api.StRun: {api.DeTimer}, api.StStop: {api.DeTimer}, api.StCount: {api.DeCounter}, api.StClear: {api.DeDetector}}[s.Kind]...)
		if s.Kind == api.StSet {
			s.Expr = g.expr(api.TyInt, 1+g.r.Intn(5))
		}
		if s.Name != "" {
			list = append(list, s)
		}
		if deep > 0 && g.r.Intn(3) == 0 {
			list = append(append(list, api.Stmt{Kind: api.StIf, At: g.here(), Expr: g.expr(api.TyBool, 1+g.r.Intn(5))}), g.list(deep-1)...)
			if g.r.Intn(2) == 0 {
				list = append(append(list, api.Stmt{Kind: api.StElse, At: g.here()}), g.list(deep-1)...)
			}
			list = append(list, api.Stmt{Kind: api.StEnd, At: g.here()})
		}
	}
	return list
}

// seat finds each group a stage in which it has no foe, and some of them more.
func (g *planner) seat() {
	g.greens = make([][]string, 2+g.r.Intn(3))
	for _, group := range g.names(api.DeGroup) {
		if g.dare() {
			continue
		}
		seats := 0
		for i, green := range g.greens {
			foe := slices.ContainsFunc(green, func(other string) bool { return g.foes[[2]string{group, other}] })
			if g.dare() || !foe && (seats == 0 || g.r.Intn(3) == 0) {
				g.greens[i] = append(green, group)
				seats++
			}
		}
		if seats == 0 {
			g.greens = append(g.greens, []string{group})
		}
	}
}

// stage goes on to the one behind it, if nowhere else.
func (g *planner) stage(number int) api.Decl {
	d := api.Decl{Kind: api.DeStage, Name: fmt.Sprint("s", number), At: g.here()}
	d.Stage = api.Stage{Green: g.greens[number], Enter: g.list(2), During: g.list(2), Leave: g.list(1)}
	count := len(g.greens)
	for range g.r.Intn(3) {
		if to := g.r.Intn(count); to != number || g.slip() {
			d.Stage.Nexts = append(d.Stage.Nexts, api.Next{To: fmt.Sprint("s", to), When: g.expr(api.TyBool, 1+g.r.Intn(7)), At: g.here()})
		}
	}
	if !g.dare() {
		when := []api.Node{{Op: api.OpElapsed, At: g.here()}, {Op: api.OpInt, Val: g.r.Int31n(5), At: g.here()}, {Op: api.OpGe, At: g.here()}}
		d.Stage.Nexts = append(d.Stage.Nexts, api.Next{To: fmt.Sprint("s", (number+1)%count), When: when, At: g.here()})
	}
	return d
}

func (g *planner) shuffled(list []api.Decl) []api.Decl {
	g.r.Shuffle(len(list), func(i, j int) { list[i], list[j] = list[j], list[i] })
	return list
}

// anyPlan is well formed. The declarations of each kind stand in any order among the others, as far as names have to be declared ahead.
func anyPlan(r *rand.Rand, wrong, unsafe int) api.Plan {
	g := &planner{r: r, wrong: wrong, unsafe: unsafe, foes: map[[2]string]bool{}}
	for _, kind := range []int{api.DeConst, api.DeGroup, api.DeDetector, api.DeTimer, api.DeCounter, api.DeVar} {
		for i := range r.Intn(5) {
			g.decls = append(g.decls, g.thing(kind, i))
		}
	}
	g.decls = g.shuffled(g.decls)
	var rest []api.Decl
	dense := 1 + r.Intn(4)
	for i, a := range g.decls {
		for _, b := range g.decls[i+1:] {
			if a.Kind == api.DeGroup && b.Kind == api.DeGroup && r.Intn(dense) == 0 {
				rest = append(rest, g.conflict(a, b))
			}
		}
	}
	g.decls = append(g.decls, g.shuffled(rest)...)
	for i := range r.Intn(3) {
		g.decls = append(g.decls, api.Decl{Kind: api.DeCond, Name: fmt.Sprint("e", i), At: g.here(), Expr: g.expr(api.TyBool, 1+r.Intn(7))})
	}
	g.seat()
	rest = []api.Decl{{Kind: api.DeStart, Name: fmt.Sprint("s", r.Intn(len(g.greens))), At: g.here()}}
	for i := range g.greens {
		rest = append(rest, g.stage(i))
	}
	g.decls = append(g.decls, g.shuffled(rest)...)
	if i := r.Intn(len(g.decls)); g.slip() {
		g.decls[i] = pick(r, g.decls...)
	} else if g.slip() {
		g.decls = slices.Delete(g.decls, i, i+1)
	}
	return copied(api.Plan{Name: "p", Decls: g.decls})
}

// smudged is a text with a piece of it taken out, doubled, or changed.
func smudged(r *rand.Rand, text string, pieces ...string) string {
	if text == "" {
		return pick(r, pieces...)
	}
	i := r.Intn(len(text))
	j := min(len(text), i+pick(r, 0, 1, 1, 2, 3, 9))
	switch r.Intn(4) {
	case 0:
		return text[:i] + text[j:]
	case 1:
		return text[:j] + text[i:]
	case 2:
		return text[:i] + pick(r, pieces...) + text[i:]
	}
	return text[:i] + pick(r, pieces...) + text[j:]
}

// anyIns are inputs whose bits stay for a while; also those of no detector.
func anyIns(r *rand.Rand, count int) []uint64 {
	ins, lasts := make([]uint64, count), pick(r, 1, 3, 8)
	for i := range ins {
		if i > 0 && r.Intn(lasts) > 0 {
			ins[i] = ins[i-1]
		} else {
			ins[i] = pick(r, 0, r.Uint64(), r.Uint64()&r.Uint64(), ^uint64(0))
		}
	}
	return ins
}

// anyEntry can be told; there are few of them, so that many are equal.
func anyEntry(r *rand.Rand) api.Entry {
	return api.Entry{Heads: pick(r, "", "r", "rg", "al"), Stage: pick(r, -1, 0, 1, 10, 255)}
}

// anyEntries are some that can be told, in stretches of any length.
func anyEntries(r *rand.Rand) []api.Entry {
	var list []api.Entry
	for range r.Intn(6) {
		list = append(list, slices.Repeat([]api.Entry{anyEntry(r)}, pick(r, 1, 1, 2, 3, 9, 90))...)
	}
	return list
}
