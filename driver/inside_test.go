package driver

import (
	"errors"
	"strings"
	"testing"

	"junction/api"
)

// outer is an error around another one.
type outer struct{ error }

func (o outer) Unwrap() error { return o.error }

// P14.1 to P14.3: what the phases answer as an error is found by its type, however it is wrapped; what is none of theirs tells nothing.
func TestFaultOf(t *testing.T) {
	t.Parallel()
	told := api.Fault{Code: api.ErrType, At: api.Pos{Line: 3, Col: 14}}
	p := api.Plan{Decls: []api.Decl{{Kind: api.DeStage}, {Kind: api.DeStage, At: api.Pos{Line: 7, Col: 2}}}}
	trap := finding{api.Finding{Code: api.ErrTrap, Stage: 1, A: -1, B: -1}, p}
	for _, c := range []struct {
		err  error
		want api.Fault
	}{
		{nil, api.Fault{}},
		{errors.New("another"), api.Fault{}},
		{refusal{errors.New("another")}, api.Fault{}},
		{refusal{fault(told)}, told},
		{outer{outer{refusal{fault(told)}}}, told},
		{refusal{trap}, api.Fault{Code: api.ErrTrap, At: api.Pos{Line: 7, Col: 2}}},
	} {
		if f := faultOf(c.err); f != c.want {
			t.Errorf("%v: %v, want %v", c.err, f, c.want)
		}
	}
	if text := (refusal{fault(told)}).Error(); !strings.HasSuffix(text, Report(told)) {
		t.Errorf("%q", text)
	}
	if text := (refusal{trap}).Error(); !strings.HasSuffix(text, "safety: a stage without a way out") {
		t.Errorf("%q", text)
	}
	var inner fault
	if !errors.As(refusal{fault(told)}, &inner) || api.Fault(inner) != told {
		t.Errorf("%v is not found in its refusal", told)
	}
}

// P14.2: should a phase refuse that tells no place, its error is told, and nothing beside it.
func TestUnplaced(t *testing.T) {
	t.Parallel()
	if _, err := unplaced(0, api.OK); err != nil {
		t.Errorf("%v", err)
	}
	if _, err := unplaced([]byte(nil), api.ErrFull); faultOf(err) != (api.Fault{Code: api.ErrFull}) {
		t.Errorf("%v", err)
	}
}

// A finding that no declaration fits has no place; safety answers none such.
func TestNoPlace(t *testing.T) {
	t.Parallel()
	plans := []api.Plan{{}, {Decls: []api.Decl{{Kind: api.DeGroup, Name: "a", At: api.Pos{Line: 1, Col: 1}}, {Kind: api.DeConst, At: api.Pos{Line: 2, Col: 2}}}}}
	for _, p := range plans {
		for code := api.ErrClash; code <= api.ErrSlow; code++ {
			f := finding{api.Finding{Code: code, Stage: 1 << 62, A: 1 << 62, B: -1}, p}
			if at := f.place(); at != (api.Pos{}) {
				t.Errorf("%d: %v", code, at)
			}
		}
	}
}
