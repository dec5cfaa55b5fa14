package bank

import (
	"errors"
	"strconv"

	"junction/api"
)

var (
	errDisk  = errors.New("no flash")
	errSlot  = errors.New("no such slot")
	errEmpty = errors.New("nothing is held")
	errSpace = errors.New("no room in a half")
	errData  = errors.New("no data, or too much")
	errInUse = errors.New("it is picked")
	errAct   = errors.New("the flash cannot do it")
	errWorn  = errors.New("the generations have run out")
)

// refusal is one of these errors with what it is about.
type refusal struct {
	what string // "slot", "act" or "byte"
	at   int
	why  error
}

func (r refusal) Error() string {
	return r.what + " " + strconv.Itoa(r.at) + ": " + r.why.Error()
}

func (r refusal) Unwrap() error { return r.why }

// about wraps an error on its way up; no error stays none.
func about(what string, at int, why error) error {
	if why == nil {
		return nil
	}
	return refusal{what: what, at: at, why: why}
}

// number is what a call answers for an error, however it is wrapped.
func number(err error) api.Errno {
	switch {
	case err == nil:
		return api.OK
	case errors.Is(err, errSlot):
		return api.ErrSlot
	case errors.Is(err, errEmpty):
		return api.ErrEmpty
	case errors.Is(err, errSpace):
		return api.ErrSpace
	case errors.Is(err, errData):
		return api.ErrData
	case errors.Is(err, errInUse):
		return api.ErrInUse
	case errors.Is(err, errAct):
		return api.ErrAct
	case errors.Is(err, errWorn):
		return api.ErrWorn
	}
	return api.ErrDisk
}
