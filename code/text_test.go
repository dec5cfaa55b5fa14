package code

import (
	"testing"

	"junction/api"
)

// P11.5: an instruction that no image has is told too, by its numbers. List meets none, as an image with one is not formed; so this looks from inside.
func TestTextOfNoInstruction(t *testing.T) {
	t.Parallel()
	for _, c := range []struct {
		in   api.Instr
		want string
	}{
		{api.Instr{}, "? 0 0"},
		{api.Instr{Op: 19, Arg: 3}, "? 19 3"}, {api.Instr{Op: 23}, "? 23 0"}, {api.Instr{Op: 29}, "? 29 0"}, {api.Instr{Op: 37}, "? 37 0"}, {api.Instr{Op: 46}, "? 46 0"},
		{api.Instr{Op: 52}, "? 52 0"}, {api.Instr{Op: 127}, "? 127 0"}, {api.Instr{Op: 151, Arg: 1}, "? 151 1"},
		{api.Instr{Op: -1 << 63, Arg: -1 << 31}, "? -9223372036854775808 -2147483648"}, {api.Instr{Op: 1<<63 - 1, Arg: 1<<31 - 1}, "? 9223372036854775807 2147483647"},
		{api.Instr{Op: api.InEnd, Arg: 1}, "? 128 1"}, {api.Instr{Op: api.InElapsed, Arg: -1}, "? 132 -1"}, {api.Instr{Op: api.OpNeg, Arg: 2}, "? 20 2"}, {api.Instr{Op: api.OpOr, Arg: 2}, "? 51 2"},
		{api.Instr{Op: api.InSmall, Arg: 1000}, "small 1000"}, {api.Instr{Op: api.InPick, Arg: -1}, "pick -1"},
	} {
		if got := textOf(c.in); got != c.want {
			t.Errorf("%v: %q, want %q", c.in, got, c.want)
		}
	}
}
