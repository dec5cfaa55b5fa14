package driver

import "junction/api"

// place is where the declaration stands that a finding speaks of.
func (f finding) place() api.Pos {
	switch f.Code {
	case api.ErrShort:
		return f.conflict().At
	case api.ErrMin, api.ErrAmber, api.ErrLead, api.ErrNever:
		return f.declared(api.DeGroup, f.A).At
	}
	// The one move that begins at no stage is that to the start.
	if f.Stage < 0 {
		return f.declared(api.DeStart, 0).At
	}
	return f.declared(api.DeStage, f.Stage).At
}

// declared is the declaration of a kind that has that number among those of its kind.
func (f finding) declared(kind, number int) api.Decl {
	for _, d := range f.plan.Decls {
		if d.Kind != kind {
			continue
		}
		if number == 0 {
			return d
		}
		number--
	}
	return api.Decl{}
}

// conflict is the declaration that names both groups, in either order.
func (f finding) conflict() api.Decl {
	a, b := f.declared(api.DeGroup, f.A).Name, f.declared(api.DeGroup, f.B).Name
	for _, d := range f.plan.Decls {
		if d.Kind == api.DeConflict && (d.Name == a && d.With == b || d.Name == b && d.With == a) {
			return d
		}
	}
	return api.Decl{}
}
