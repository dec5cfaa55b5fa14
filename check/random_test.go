package check_test

import (
	"fmt"
	"math"
	"math/rand"
	"reflect"
	"slices"
	"strings"

	"junction/api"
)

func pick[T any](r *rand.Rand, list ...T) T { return list[r.Intn(len(list))] }

// planner makes plans at random, with a place of its own for everything. One choice in so many is a wrong one (0: none).
type planner struct {
	r      *rand.Rand
	wrong  int
	large  bool // some conditions are, and are named by others
	p      api.Plan
	places int
	stages []string // the names of all stages, those to come too
}

func (g *planner) slip() bool { return g.wrong > 0 && g.r.Intn(g.wrong) == 0 }

func (g *planner) here() api.Pos {
	g.places++
	return at(g.places, 1+g.r.Intn(9))
}

func (g *planner) anyName() string { return fmt.Sprintf("w%d", g.r.Intn(24)) }

// known are the names of those kinds that are declared so far.
func (g *planner) known(kinds ...int) []string {
	var list []string
	for _, d := range g.p.Decls {
		if slices.Contains(kinds, d.Kind) {
			list = append(list, d.Name)
		}
	}
	return list
}

// use is a name of one of the kinds, or "" if there is none.
func (g *planner) use(kinds ...int) string {
	if g.slip() {
		return g.anyName()
	}
	if list := g.known(kinds...); len(list) > 0 {
		return pick(g.r, list...)
	}
	return ""
}

// newName is one that is not declared so far and not kept for a stage.
func (g *planner) newName() string {
	for {
		name := g.anyName()
		if g.slip() || !slices.Contains(g.stages, name) && !slices.ContainsFunc(g.p.Decls, func(d api.Decl) bool { return d.Name == name }) {
			return name
		}
	}
}

func (g *planner) leaf(typ int) api.Node {
	n := api.Node{At: g.here()}
	if typ == api.TyInt {
		switch g.r.Intn(4) {
		case 0:
			n.Op = api.OpElapsed
			return n
		case 1, 2:
			if n.Name = g.use(api.DeConst, api.DeVar, api.DeTimer, api.DeCounter); n.Name != "" {
				n.Op = api.OpName
				return n
			}
		}
		n.Op, n.Val = api.OpInt, pick(g.r, 0, 1, 9, math.MaxInt32, g.r.Int31())
		return n
	}
	switch g.r.Intn(4) {
	case 0:
		if n.Name = g.use(api.DeGroup); n.Name != "" {
			n.Op = pick(g.r, api.OpGreen, api.OpRed)
			return n
		}
	case 1, 2:
		if n.Name = g.use(api.DeDetector, api.DeCond); g.large {
			n.Name = g.use(api.DeCond)
		}
		if n.Name != "" {
			n.Op = api.OpName
			return n
		}
	}
	n.Op, n.Val = api.OpBool, g.r.Int31n(2)
	return n
}

// expr is an expression of a type, of that many nodes.
func (g *planner) expr(typ, size int) []api.Node {
	if g.slip() {
		typ = api.TyInt + api.TyBool - typ
	}
	if size < 2 {
		return []api.Node{g.leaf(typ)}
	}
	var fit []int
	all := operators()
	for op := range 60 {
		if o, ok := all[op]; ok && o.is == typ && (len(o.takes[0]) == 1 || size > 2) {
			fit = append(fit, op)
		}
	}
	op := pick(g.r, fit...)
	takes := pick(g.r, all[op].takes...)
	rest := size - 1
	var e []api.Node
	for i, t := range takes {
		part := rest
		if i < len(takes)-1 {
			part = 1 + g.r.Intn(rest-1)
		}
		e = append(e, g.expr(t, part)...)
		rest -= part
	}
	return append(e, api.Node{Op: op, At: g.here()})
}

func (g *planner) short(typ int) []api.Node { return g.expr(typ, 1+g.r.Intn(7)) }

func (g *planner) statements(room int) []api.Stmt {
	var list []api.Stmt
	for range g.r.Intn(4) {
		s := api.Stmt{Kind: 1 + g.r.Intn(7), At: g.here()}
		switch s.Kind {
		case api.StSet:
			s.Name = g.use(api.DeVar)
			s.Expr = g.short(api.TyInt)
		case api.StReset:
			s.Name = g.use(api.DeTimer, api.DeCounter)
		case api.StRun, api.StStop:
			s.Name = g.use(api.DeTimer)
		case api.StCount:
			s.Name = g.use(api.DeCounter)
		case api.StClear:
			s.Name = g.use(api.DeDetector)
		case api.StIf:
			if room == 0 {
				continue
			}
			s.Expr = g.short(api.TyBool)
			list = append(append(list, s), g.statements(room-1)...)
			if g.r.Intn(2) == 0 {
				list = append(append(list, api.Stmt{Kind: api.StElse, At: g.here()}), g.statements(room-1)...)
			}
			s = api.Stmt{Kind: api.StEnd, At: g.here()}
		}
		if s.Name != "" || s.Kind == api.StEnd {
			list = append(list, s)
		}
	}
	return list
}

func (g *planner) stage(name string) api.Stage {
	var s api.Stage
	for _, group := range g.known(api.DeGroup) {
		if g.r.Intn(2) == 0 {
			s.Green = append(s.Green, group)
		}
	}
	g.r.Shuffle(len(s.Green), func(i, j int) { s.Green[i], s.Green[j] = s.Green[j], s.Green[i] })
	if g.slip() {
		s.Green = append(s.Green, g.anyName())
	}
	s.Enter, s.During, s.Leave = g.statements(3), g.statements(3), g.statements(3)
	for range g.r.Intn(4) {
		to := pick(g.r, g.stages...)
		if g.slip() {
			to = pick(g.r, name, g.anyName())
		} else if to == name {
			continue
		}
		s.Nexts = append(s.Nexts, api.Next{To: to, When: g.short(api.TyBool), At: g.here()})
	}
	return s
}

// conflict is one of two groups that have none yet; of no kind, if there are no such two.
func (g *planner) conflict(d *api.Decl) {
	d.Name, d.With = g.use(api.DeGroup), g.use(api.DeGroup)
	again := d.Name == d.With || slices.ContainsFunc(g.p.Decls, func(o api.Decl) bool {
		return o.Kind == api.DeConflict && (o.Name == d.Name && o.With == d.With || o.Name == d.With && o.With == d.Name)
	})
	if d.Name == "" || d.With == "" || again && !g.slip() {
		d.Kind = 0
	}
	d.N[0], d.N[1] = g.ticks(0, 3600), g.ticks(0, 3600)
}

func (g *planner) ticks(least, most int32) int32 {
	if g.slip() {
		return pick(g.r, 0, 1, 60, 61, most, most+1, 3600, 3601, math.MaxInt32)
	}
	return pick(g.r, least, most, least+g.r.Int31n(most-least+1))
}

func (g *planner) add(kind int) {
	d := api.Decl{Kind: kind, At: g.here()}
	if named(d) {
		d.Name = g.newName()
	}
	switch kind {
	case api.DeConst, api.DeVar:
		d.N[0] = pick(g.r, 0, 1, -1, math.MaxInt32, -math.MaxInt32, g.r.Int31n(99)-50)
	case api.DeGroup:
		d.Sort, d.N = pick(g.r, api.Vehicle, api.Pedestrian), [3]int32{g.ticks(1, 3600), g.ticks(0, 60), g.ticks(0, 60)}
	case api.DeConflict:
		g.conflict(&d)
	case api.DeDetector:
		d.Sort, d.N[0], d.N[1] = g.r.Intn(2), g.ticks(0, 3600), g.ticks(0, 3600)
	case api.DeCond:
		d.Expr = g.short(api.TyBool)
		if g.large && g.r.Intn(2) == 0 {
			d.Expr = g.expr(api.TyBool, 120)
		}
	}
	if d.Kind != 0 {
		g.p.Decls = append(g.p.Decls, d)
	}
}

// anyPlan is a well-formed plan. Without wrong choices only its sizes may be refused.
func anyPlan(r *rand.Rand, wrong int) api.Plan {
	g := &planner{r: r, wrong: wrong, large: r.Intn(8) == 0}
	g.p.Name = g.anyName()
	for range 1 + r.Intn(4) {
		g.stages = append(g.stages, g.newName())
		slices.Sort(g.stages)
		g.stages = slices.Compact(g.stages)
	}
	r.Shuffle(len(g.stages), func(i, j int) { g.stages[i], g.stages[j] = g.stages[j], g.stages[i] })
	left, started := slices.Clone(g.stages), false
	for range 2 + r.Intn(16) {
		kind := 1 + r.Intn(10)
		if g.large && r.Intn(2) == 0 {
			kind = api.DeCond
		}
		switch {
		case kind == api.DeStage && len(left) > 0:
			g.p.Decls = append(g.p.Decls, api.Decl{Kind: kind, Name: left[0], At: g.here(), Stage: g.stage(left[0])})
			left = left[1:]
		case kind == api.DeStart && (!started || g.slip()):
			started = true
			g.p.Decls = append(g.p.Decls, api.Decl{Kind: kind, Name: g.startName(), At: g.here()})
		case kind < api.DeStage:
			g.add(kind)
		}
	}
	for _, name := range left {
		g.p.Decls = append(g.p.Decls, api.Decl{Kind: api.DeStage, Name: name, At: g.here(), Stage: g.stage(name)})
	}
	if !started && !g.slip() {
		g.p.Decls = append(g.p.Decls, api.Decl{Kind: api.DeStart, Name: g.startName(), At: g.here()})
	}
	return g.p
}

func (g *planner) startName() string {
	if g.slip() {
		return g.anyName()
	}
	return pick(g.r, g.stages...)
}

// fields are all numbers, texts, bools and lists of a value.
func fields(v reflect.Value) []reflect.Value {
	switch v.Kind() {
	case reflect.Struct:
		var list []reflect.Value
		for i := range v.NumField() {
			list = append(list, fields(v.Field(i))...)
		}
		return list
	case reflect.Slice, reflect.Array:
		var list []reflect.Value
		if v.Kind() == reflect.Slice {
			list = append(list, v)
		}
		for i := range v.Len() {
			list = append(list, fields(v.Index(i))...)
		}
		return list
	}
	return []reflect.Value{v}
}

// spoilt is a copy of a value with one field changed, whichever.
func spoilt[T any](r *rand.Rand, x T) T {
	x = copied(x)
	all := fields(reflect.ValueOf(&x).Elem())
	v := all[r.Intn(len(all))]
	switch v.Kind() {
	case reflect.Int, reflect.Int32:
		n := pick(r, -1, 0, 1, 2, 3, 10, 16, 59, 60, 61, 63, 64, 255, 256, 3600, 3601, math.MinInt32, math.MaxInt32, int64(r.Intn(60)), v.Int()-1, v.Int()+1)
		if v.Kind() == reflect.Int && r.Intn(12) == 0 {
			n = pick[int64](r, math.MinInt64, math.MaxInt64, 1<<32, -1<<32)
		}
		v.SetInt(n)
	case reflect.Uint64:
		v.SetUint(pick(r, 0, 1<<63, ^uint64(0), v.Uint()^1<<r.Intn(64), 1<<r.Intn(6)))
	case reflect.String:
		other := all[r.Intn(len(all))]
		if other.Kind() == reflect.String && r.Intn(2) == 0 {
			v.SetString(other.String())
		} else {
			v.SetString(pick(r, "", "min", "a b", "z", "w1", strings.Repeat("z", 32), strings.Repeat("z", 33)))
		}
	case reflect.Bool:
		v.SetBool(!v.Bool())
	case reflect.Slice:
		spoilList(r, v)
	}
	return x
}

func spoilList(r *rand.Rand, v reflect.Value) {
	one := reflect.New(v.Type().Elem()).Elem()
	if v.Len() == 0 {
		v.Set(reflect.Append(v, one))
		return
	}
	i, j := r.Intn(v.Len()), r.Intn(v.Len())
	switch r.Intn(4) {
	case 0:
		v.Set(reflect.AppendSlice(v.Slice3(0, i, i), v.Slice(i+1, v.Len())))
	case 1:
		one.Set(v.Index(i))
		v.Set(reflect.Append(v, one))
		copyLists(v)
	case 2:
		one.Set(v.Index(i))
		v.Index(i).Set(v.Index(j))
		v.Index(j).Set(one)
	case 3:
		v.Set(reflect.Append(v, one))
	}
}

// shaken is a copy of a plan with other places.
func shaken(r *rand.Rand, p api.Plan) api.Plan {
	p = copied(p)
	pos := reflect.TypeOf(api.Pos{})
	var walk func(v reflect.Value)
	walk = func(v reflect.Value) {
		switch {
		case v.Type() == pos:
			v.Set(reflect.ValueOf(at(r.Intn(5)-2, pick(r, 0, math.MinInt, math.MaxInt, r.Intn(9)))))
		case v.Kind() == reflect.Struct:
			for i := range v.NumField() {
				walk(v.Field(i))
			}
		case v.Kind() == reflect.Slice:
			for i := range v.Len() {
				walk(v.Index(i))
			}
		}
	}
	walk(reflect.ValueOf(&p).Elem())
	return p
}
