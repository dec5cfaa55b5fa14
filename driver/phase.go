package driver

import (
	"junction/api"
	"junction/check"
	"junction/code"
	"junction/opt"
	"junction/rom"
	"junction/safety"
	"junction/tree"
)

// parse is the phases lex and tree.
func parse(src string) (api.Plan, error) { return placed(tree.Parse(src)) }

// analyze is the phases check and safety. That a plan is well formed check.Resolve asks ahead of all else.
func analyze(p api.Plan) (api.Typed, error) {
	typed, err := placed(check.Resolve(p))
	if err != nil {
		return api.Typed{}, err
	}
	found, err := unplaced(safety.Check(typed))
	if err != nil {
		return api.Typed{}, err
	}
	if len(found) > 0 {
		return api.Typed{}, refusal{finding{found[0], p}}
	}
	return typed, nil
}

// build is the phases check to rom. Those behind safety refuse nothing that has come so far; should one do so all the same, its error is told and no bytes are made.
func build(p api.Plan) ([]byte, error) {
	typed, err := analyze(p)
	if err != nil {
		return nil, err
	}
	less, err := unplaced(opt.Plan(typed))
	if err != nil {
		return nil, err
	}
	image, err := unplaced(code.Generate(less))
	if err != nil {
		return nil, err
	}
	return unplaced(rom.Encode(image))
}

// placed turns what a layer answers beside a fault into what a phase answers.
func placed[T any](made T, f api.Fault) (T, error) {
	if f.Code != api.OK {
		return made, refusal{fault(f)}
	}
	return made, nil
}

// unplaced is placed for the layers that tell no place.
func unplaced[T any](made T, e api.Errno) (T, error) {
	return placed(made, api.Fault{Code: e})
}
