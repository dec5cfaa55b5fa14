package tree

import "junction/api"

func (r *reader) plan() api.Plan {
	r.take(api.TkPlan)
	p := api.Plan{Name: r.name()}
	r.take(api.TkOpen)
	for !r.takeIf(api.TkClose) {
		p.Decls = append(p.Decls, r.declaration())
	}
	r.take(api.TkEnd)
	return p
}

// declaration reads the first word and the name, which all declarations begin with, and leaves the rest to the kind's own reader.
func (r *reader) declaration() api.Decl {
	var d api.Decl
	var rest func(*api.Decl)
	first := r.take(api.TkConst, api.TkGroup, api.TkConflict, api.TkDetector, api.TkTimer, api.TkCounter, api.TkVar, api.TkCond, api.TkStart, api.TkStage)
	switch first.Kind {
	case api.TkConst:
		d.Kind, rest = api.DeConst, r.setting
	case api.TkGroup:
		d.Kind, rest = api.DeGroup, r.group
	case api.TkConflict:
		d.Kind, rest = api.DeConflict, r.conflict
	case api.TkDetector:
		d.Kind, rest = api.DeDetector, r.detector
	case api.TkTimer:
		d.Kind, rest = api.DeTimer, r.nameAlone
	case api.TkCounter:
		d.Kind, rest = api.DeCounter, r.nameAlone
	case api.TkVar:
		d.Kind, rest = api.DeVar, r.setting
	case api.TkCond:
		d.Kind, rest = api.DeCond, r.condition
	case api.TkStart:
		d.Kind, rest = api.DeStart, r.nameAlone
	case api.TkStage:
		d.Kind, rest = api.DeStage, r.stage
	}
	d.At = first.At
	d.Name = r.name()
	rest(&d)
	return d
}

func (r *reader) setting(d *api.Decl) {
	r.take(api.TkSet)
	negative := r.takeIf(api.TkMinus)
	d.N[0] = r.number()
	if negative {
		d.N[0] = -d.N[0]
	}
	r.take(api.TkSemi)
}

func (r *reader) group(d *api.Decl) {
	d.Sort = api.Vehicle
	if r.take(api.TkVehicle, api.TkPedestrian).Kind == api.TkPedestrian {
		d.Sort = api.Pedestrian
	}
	r.take(api.TkMin)
	d.N[0] = r.number()
	r.take(api.TkAmber)
	d.N[1] = r.number()
	d.N[2] = r.numberIf(api.TkLead)
	r.take(api.TkSemi)
}

func (r *reader) conflict(d *api.Decl) {
	d.With = r.name()
	d.N[0] = r.number()
	d.N[1] = r.number()
	r.take(api.TkSemi)
}

func (r *reader) detector(d *api.Decl) {
	if r.takeIf(api.TkLatch) {
		d.Sort = 1
	}
	d.N[0] = r.numberIf(api.TkDelay)
	d.N[1] = r.numberIf(api.TkHold)
	r.take(api.TkSemi)
}

// numberIf reads a word and its number, which may be left out together.
func (r *reader) numberIf(word int) int32 {
	if !r.takeIf(word) {
		return 0
	}
	return r.number()
}

func (r *reader) nameAlone(*api.Decl) { r.take(api.TkSemi) }

func (r *reader) condition(d *api.Decl) {
	r.take(api.TkSet)
	d.Expr = r.expression()
	r.take(api.TkSemi)
}

func (r *reader) stage(d *api.Decl) {
	r.take(api.TkOpen)
	d.Stage.Green = r.green()
	d.Stage.Enter = r.blockIf(api.TkEnter)
	d.Stage.During = r.blockIf(api.TkDuring)
	d.Stage.Leave = r.blockIf(api.TkLeave)
	for r.sees(api.TkNext) {
		d.Stage.Nexts = append(d.Stage.Nexts, r.next())
	}
	r.take(api.TkClose)
}

func (r *reader) green() []string {
	r.take(api.TkGreen)
	if r.takeIf(api.TkSemi) {
		return nil
	}
	names := []string{r.name()}
	for r.takeIf(api.TkComma) {
		names = append(names, r.name())
	}
	r.take(api.TkSemi)
	return names
}

func (r *reader) next() api.Next {
	n := api.Next{At: r.take(api.TkNext).At}
	n.To = r.name()
	r.take(api.TkWhen)
	n.When = r.expression()
	r.take(api.TkSemi)
	return n
}
