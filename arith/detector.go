package arith

import "junction/api"

// Sense is a detector behind one tick with that bit.
func Sense(d api.Det, s api.DetState, raw bool) api.DetState {
	var next api.DetState
	if raw {
		next.Run = Up(s.Run)
	}
	active := next.Run > ticks(d.Delay)
	holding := s.Left > 0
	if active {
		next.Left = ticks(d.Hold)
	} else if holding {
		next.Left = s.Left - 1
	}
	next.On = active || holding
	next.Mem = d.Latch && (s.Mem || active)
	return next
}

// Says is what a detector says.
func Says(d api.Det, s api.DetState) bool { return s.On || d.Latch && s.Mem }

// ClearDet is a detector whose latch is cleared.
func ClearDet(s api.DetState) api.DetState {
	s.Mem = false
	return s
}

// ticks is a row's delay or hold as it counts: a row may hold numbers that no word can.
func ticks(n int) int32 { return int32(min(max(n, 0), api.MaxWord)) }
