package arith_test

import (
	"testing"

	"junction/api"
	"junction/arith"
)

// P1.5
func TestUp(t *testing.T) {
	for n, want := range map[int32]int32{0: 1, 1: 2, 41: 42, 255: 256, 65535: 65536, greatest - 1: greatest, greatest: greatest, -1: 1, -2: 1, -5: 1, least: 1, least + 1: 1} {
		if up := arith.Up(n); up != want {
			t.Errorf("Up(%d) = %d, want %d", n, up, want)
		}
	}
}

// P1.6
func TestStepTimer(t *testing.T) {
	for _, n := range edgeWords {
		running := api.Timer{Value: n, Running: true}
		if got := arith.StepTimer(running); got != (api.Timer{Value: arith.Up(n), Running: true}) {
			t.Errorf("StepTimer(%+v) = %+v", running, got)
		}
		standing := api.Timer{Value: n}
		if got := arith.StepTimer(standing); got != standing {
			t.Errorf("StepTimer(%+v) = %+v", standing, got)
		}
	}
	for _, c := range [][2]api.Timer{
		{{}, {}},
		{{Running: true}, {Value: 1, Running: true}},
		{{Value: greatest, Running: true}, {Value: greatest, Running: true}},
		{{Value: -4, Running: true}, {Value: 1, Running: true}},
		{{Value: -4}, {Value: -4}},
	} {
		if got := arith.StepTimer(c[0]); got != c[1] {
			t.Errorf("StepTimer(%+v) = %+v, want %+v", c[0], got, c[1])
		}
	}
}
