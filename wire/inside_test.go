package wire

import (
	"reflect"
	"testing"
)

// stepOf names what an end does with the next byte.
func stepOf(e *End) string {
	for name, step := range map[string]func(*End, byte){"seek": (*End).seek, "gather": (*End).gather, "skip": (*End).skip} {
		if reflect.ValueOf(e.step).Pointer() == reflect.ValueOf(step).Pointer() {
			return name
		}
	}
	return ""
}

// Chapter 17's Ways: what is done with the next byte is another function ahead of the first flag, within a frame, and within one that is too long.
func TestStep(t *testing.T) {
	e := NewEnd()
	feed := func(n int, x byte, want string) {
		t.Helper()
		for range n {
			e.Feed([]byte{x})
		}
		if got := stepOf(e); got != want {
			t.Errorf("behind %d of %02X: %q, want %q", n, x, got, want)
		}
	}
	feed(0, 0, "seek")
	feed(600, 0, "seek")
	feed(1, flag, "gather")
	feed(2, flag, "gather")
	feed(518, 0, "gather")
	feed(1, 0, "skip")
	feed(600, 0, "skip")
	feed(1, flag, "gather")
	feed(518, escape, "gather")
	feed(1, flag, "gather")
	if len(e.coming) != 0 || e.dropped != 2 {
		t.Errorf("%d bytes are coming in, %d are dropped", len(e.coming), e.dropped)
	}
	feed(518, 1, "gather")
	feed(1, 1, "skip")
	if len(e.coming) > 518 {
		t.Errorf("%d bytes are kept", len(e.coming))
	}
}

// Chapter 17's Ways: the table is there ahead of the first call; each number of it is what eight shifts make of its place.
func TestSums(t *testing.T) {
	for i, got := range sums {
		want := uint16(i)
		for range 8 {
			if want&1 == 1 {
				want = want>>1 ^ 0x8408
			} else {
				want >>= 1
			}
		}
		if got != want {
			t.Errorf("sums[%d] = %04X, want %04X", i, got, want)
		}
	}
}
