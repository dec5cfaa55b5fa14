package wire_test

import (
	"bytes"
	"math/rand"
	"testing"

	"junction/api"
	"junction/wire"
)

// P17.2: the chapter's rows, and what stands at an edge.
func TestStuff(t *testing.T) {
	for _, c := range []struct{ plain, stuffed string }{
		{"", ""}, {"01 7E 7D 5E", "01 7D5E 7D5D 5E"}, {"7E", "7D5E"}, {"7D", "7D5D"}, {"7D 5E", "7D5D 5E"}, {"7D 5D", "7D5D 5D"},
		{"7E 7E", "7D5E 7D5E"}, {"7D 7D", "7D5D 7D5D"}, {"7D 7E", "7D5D 7D5E"}, {"5E 5D 20 7F 7C FE FD", "5E 5D 20 7F 7C FE FD"},
	} {
		plain, stuffed := raw(t, c.plain), raw(t, c.stuffed)
		if got := wire.Stuff(plain); !bytes.Equal(got, stuffed) {
			t.Errorf("P17.2: Stuff(%s) = %x, want %s", c.plain, got, c.stuffed)
		}
		if got, e := wire.Unstuff(stuffed); e != api.OK || !bytes.Equal(got, plain) {
			t.Errorf("P17.2: Unstuff(%s) = %x, %d, want %s", c.stuffed, got, e, c.plain)
		}
	}
	if got, e := wire.Unstuff(nil); len(wire.Stuff(nil)) != 0 || len(got) != 0 || e != api.OK {
		t.Errorf("P17.2: no bytes: %x, %d", got, e)
	}
}

// P17.2: flags within, escapes as the last byte, escapes with something else behind them.
func TestUnstuffRefuses(t *testing.T) {
	for _, text := range []string{
		"7E", "01 7E", "7E 01", "01 7E 02", "7D 5E 7E", "7D 7E", "7D 7E 5E",
		"7D", "01 7D", "7D 5E 7D", "7D 5D 7D", "7D 7D", "7D 7D 5D", "7D 7D 5E",
		"7D 20", "7D 00", "7D 5C", "7D 5F", "7D FF", "01 7D 5F 02", "7D DE", "7D DD",
	} {
		if got, e := wire.Unstuff(raw(t, text)); e != api.ErrStuff || len(got) != 0 {
			t.Errorf("P17.2: Unstuff(%s) = %x, %d", text, got, e)
		}
	}
	// Of all that can stand behind an escape two bytes are let in.
	for x := range 256 {
		want := api.ErrStuff
		if x == 0x5E || x == 0x5D {
			want = api.OK
		}
		if _, e := wire.Unstuff([]byte{1, 0x7D, byte(x), 2}); e != want {
			t.Errorf("P17.2: Unstuff of 7D %02X: %d", x, e)
		}
	}
}

// texts gives all texts of up to n of these bytes.
func texts(letters string, n int, text []byte, give func([]byte)) {
	give(text)
	if n == 0 {
		return
	}
	for i := range len(letters) {
		texts(letters, n-1, append(bytes.Clone(text), letters[i]), give)
	}
}

// P17.2: over all short texts Unstuff takes just what Stuff writes, and each gives back what the other took.
func TestStuffAndBack(t *testing.T) {
	t.Parallel()
	written := map[string]string{}
	texts("\x7d\x7e\x5d\x5e\x20\x00", 6, nil, func(b []byte) {
		stuffed := wire.Stuff(b)
		if !bytes.Equal(stuffed, modelStuff(b)) || bytes.IndexByte(stuffed, 0x7E) >= 0 {
			t.Fatalf("P17.2: Stuff(%x) = %x", b, stuffed)
		}
		if got, e := wire.Unstuff(stuffed); e != api.OK || !bytes.Equal(got, b) {
			t.Fatalf("P17.2: Unstuff(Stuff(%x)) = %x, %d", b, got, e)
		}
		if _, twice := written[string(stuffed)]; twice {
			t.Fatalf("P17.2: %x is written twice", stuffed)
		}
		written[string(stuffed)] = string(b)
	})
	taken := 0
	texts("\x7d\x7e\x5d\x5e\x20\x00", 6, nil, func(b []byte) {
		plain, ok := written[string(b)]
		got, e := wire.Unstuff(b)
		if ok && (e != api.OK || string(got) != plain) || !ok && (e != api.ErrStuff || len(got) != 0) {
			t.Fatalf("P17.2: Unstuff(%x) = %x, %d", b, got, e)
		}
		if ok {
			taken++
		}
	})
	if taken < 5000 {
		t.Errorf("%d texts are stuffed", taken)
	}
}

// P17.2: the same at random, with all bytes.
func TestStuffAtRandom(t *testing.T) {
	t.Parallel()
	r := rand.New(rand.NewSource(172))
	taken := 0
	for range 20000 {
		b := anyData(r, r.Intn(600))
		stuffed := wire.Stuff(b)
		back, e := wire.Unstuff(stuffed)
		if !bytes.Equal(stuffed, modelStuff(b)) || e != api.OK || !bytes.Equal(back, b) {
			t.Fatalf("P17.2: %x", b)
		}
		b = b[:min(len(b), r.Intn(12))]
		plain, e := wire.Unstuff(b)
		if want, ok := modelUnstuff(b); ok != (e == api.OK) || ok && !bytes.Equal(plain, want) {
			t.Fatalf("P17.2: Unstuff(%x) = %x, %d", b, plain, e)
		}
		if e == api.OK {
			taken++
			if !bytes.Equal(wire.Stuff(plain), b) {
				t.Fatalf("P17.2: Stuff(Unstuff(%x)) = %x", b, wire.Stuff(plain))
			}
		}
	}
	if taken < 1000 {
		t.Errorf("%d texts are stuffed", taken)
	}
}
