package check

import (
	"slices"

	"junction/api"
)

// planScope is the scope of a plan: the symbols that may be seen, by their names.
type planScope struct {
	symbols map[string]api.Symbol
}

func newPlanScope(list ...api.Symbol) planScope {
	s := planScope{symbols: map[string]api.Symbol{}}
	for _, symbol := range list {
		s.add(symbol)
	}
	return s
}

// add lets a symbol be seen and tells true, if it is the first one of its name: no other one counts.
func (s planScope) add(symbol api.Symbol) bool {
	if _, there := s.symbols[symbol.Name]; there {
		return false
	}
	s.symbols[symbol.Name] = symbol
	return true
}

// find is the symbol of a name, which must be of one of the kinds.
func (s planScope) find(name string, kinds ...int) (api.Symbol, api.Errno) {
	symbol, there := s.symbols[name]
	switch {
	case !there:
		return api.Symbol{}, api.ErrUnknown
	case !slices.Contains(kinds, symbol.Kind):
		return api.Symbol{}, api.ErrKind
	}
	return symbol, api.OK
}

// most holds how many declarations of a kind there may be, at the kind's number; 0 is any number.
var most = [...]int{
	api.DeGroup:    api.MaxGroups,
	api.DeDetector: api.MaxDets,
	api.DeTimer:    api.MaxTimers,
	api.DeCounter:  api.MaxCounters,
	api.DeVar:      api.MaxVars,
	api.DeStage:    api.MaxStages,
	api.DeStart:    0,
}

// symbolsOf takes the declarations of a well-formed plan alone.
func symbolsOf(decls []api.Decl) ([]api.Symbol, api.Fault) {
	var list []api.Symbol
	var counts [api.DeStart + 1]int
	s := newPlanScope()
	for _, d := range decls {
		if !declares(d) {
			continue
		}
		symbol := api.Symbol{Name: d.Name, Kind: d.Kind, Ix: counts[d.Kind], At: d.At}
		if !s.add(symbol) {
			return nil, api.Fault{Code: api.ErrTwice, At: d.At}
		}
		counts[d.Kind]++
		if most[d.Kind] > 0 && counts[d.Kind] > most[d.Kind] {
			return nil, api.Fault{Code: api.ErrMany, At: d.At}
		}
		list = append(list, symbol)
	}
	return list, api.Fault{}
}

// declares tells whether a declaration's Name is a new one, and not one of another declaration.
func declares(d api.Decl) bool { return d.Kind != api.DeConflict && d.Kind != api.DeStart }
