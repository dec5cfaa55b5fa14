package load_test

import (
	"slices"
	"testing"

	"junction/api"
	"junction/load"
)

// P12.2: the heights of a section, -1 outside of it.
func TestHeights(t *testing.T) {
	t.Parallel()
	for _, c := range []struct {
		code  string
		entry int
		want  []int
	}{
		{"end; end; end", 0, []int{0, -1, -1}},
		{"end; end; end", 1, []int{-1, 0, -1}},
		{"end; end; end", 2, []int{-1, -1, 0}},
		{"small 1, const 0, add, store 0, end; det 0, if 7, end; end", 0, []int{0, 1, 2, 1, 0, -1, -1, -1, -1}},
		{"small 1, const 0, add, store 0, end; det 0, if 7, end; end", 5, []int{-1, -1, -1, -1, -1, 0, 1, 0, -1}},
		{"small 1, const 0, add, store 0, end; det 0, if 7, end; end", 8, []int{-1, -1, -1, -1, -1, -1, -1, -1, 0}},
		// The two ways of an InAnd: 1 at the place that it jumps to, 0 where it goes on.
		{"det 0, andjump 3, det 1, not, if 5, end; end; end", 0, []int{0, 1, 0, 1, 1, 0, -1, -1}},
		// A height that stays over a jump.
		{"small 1, det 0, if 5, small 2, jump 6, small 3, add, store 0, end; end; end", 0, []int{0, 1, 2, 1, 2, 1, 2, 1, 0, -1, -1}},
		// The second slot's.
		{"end; pick 1; end; elapsed, store 0, end; end; end", 3, []int{-1, -1, -1, 0, 1, 0, -1, -1}},
		{"end; pick 1; end; elapsed, store 0, end; end; end", 6, []int{-1, -1, -1, -1, -1, -1, 0, -1}},
	} {
		list, f := load.Heights(rich(c.code), c.entry)
		if f != (api.Fault{}) || !slices.Equal(list, c.want) {
			t.Errorf("%s: Heights(%d) = %v, %v, want %v", c.code, c.entry, list, f, c.want)
		}
	}
}

// P12.2: a place at which no section begins, within the code or not.
func TestHeightsOfNoEntry(t *testing.T) {
	t.Parallel()
	m := rich("small 1, store 0, end; end; end")
	for _, entry := range []int{1, 2, 5, 6, -1, -2, 65535, 65536, -1 << 63, 1<<63 - 1} {
		if list, f := load.Heights(m, entry); f != at(api.ErrIndex, 0) || len(list) != 0 {
			t.Errorf("Heights(%d): %v, %v", entry, list, f)
		}
	}
	for _, entry := range []int{0, 3, 4} {
		if list, f := load.Heights(m, entry); f != (api.Fault{}) || len(list) != 5 {
			t.Errorf("Heights(%d): %v, %v", entry, list, f)
		}
	}
}

// P12.2: Verify's fault comes first, wherever the fault is, and whether a section begins at the place or not.
func TestHeightsOfWhatIsWrong(t *testing.T) {
	t.Parallel()
	for _, c := range []row{
		{"end; end; small 1, end", api.ErrStack, 3},
		{"end, end; end; end", api.ErrDead, 1},
		{"end; pick 0; end", api.ErrIndex, 1},
		{"truth 1, store 0, end; end; end", api.ErrSort, 1},
		{"run 0; end; end", api.ErrEnd, 0},
	} {
		for _, entry := range []int{0, 1, 2, 3, -1, 99} {
			if list, f := load.Heights(rich(c.code), entry); f != at(c.want, c.place) || len(list) != 0 {
				t.Errorf("%s: Heights(%d) = %v, %v, want %d at %d", c.code, entry, list, f, c.want, c.place)
			}
		}
	}
	m := rich("end; end; end")
	m.Slots[0].Leave = 1
	if list, f := load.Heights(m, 0); f != at(api.ErrSection, 1) || len(list) != 0 {
		t.Errorf("entries that do not rise: %v, %v", list, f)
	}
}
