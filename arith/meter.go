package arith

import "junction/api"

// Up is one more, up to MaxWord.
func Up(n int32) int32 {
	if n == api.MaxWord {
		return n
	}
	return max(n, 0) + 1
}

// StepTimer is a timer behind one tick.
func StepTimer(t api.Timer) api.Timer {
	if t.Running {
		t.Value = Up(t.Value)
	}
	return t
}
