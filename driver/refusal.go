package driver

import (
	"errors"

	"junction/api"
)

// refusal is the error that a phase answers; why is a fault or a finding.
type refusal struct{ why error }

func (r refusal) Error() string { return "refused: " + r.why.Error() }

func (r refusal) Unwrap() error { return r.why }

// fault is what a layer refuses that knows the place itself.
type fault api.Fault

func (f fault) Error() string { return Report(api.Fault(f)) }

// finding is what safety finds. It knows numbers of stages and groups alone, so the plan as it is written goes with it.
type finding struct {
	api.Finding
	plan api.Plan
}

func (f finding) Error() string { return Report(api.Fault{Code: f.Code}) }

// faultOf is the fault that a phase's error tells, the zero one of no error.
func faultOf(err error) api.Fault {
	var r refusal
	if !errors.As(err, &r) {
		return api.Fault{}
	}
	switch why := r.why.(type) {
	case fault:
		return api.Fault(why)
	case finding:
		return api.Fault{Code: why.Code, At: why.place()}
	}
	return api.Fault{}
}
