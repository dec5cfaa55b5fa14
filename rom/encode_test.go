package rom_test

import (
	"bytes"
	"math/rand"
	"testing"

	"junction/api"
	"junction/rom"
)

// P10.3: the chapter's first example, byte by byte.
func TestExample(t *testing.T) {
	want := unhexed("4A5350 1A 0100 63000000" +
		"01 02000000 01 70" +
		"02 01000000 00" +
		"03 02000000 0000" +
		"04 01000000 00" +
		"05 03000000 00 00 00" +
		"06 02000000 0000" +
		"07 19000000 0000 0100 00 0000000000000000 00000000 01000000 02000000" +
		"08 09000000 0000 03000000 80 80 80")
	b, e := rom.Encode(little())
	if e != api.OK || len(b) != 99 || !bytes.Equal(b[:95], want) {
		t.Fatalf("Encode = %x, %d, want %x", b, e, want)
	}
	sum := rom.Sum(want)
	if !bytes.Equal(b[95:], []byte{byte(sum), byte(sum >> 8), byte(sum >> 16), byte(sum >> 24)}) {
		t.Errorf("its sum is written as %x, want %08x low byte first", b[95:], sum)
	}
}

// P10.3: an image with something of everything, section by section.
func TestEncodeRich(t *testing.T) {
	want := sealed(framed(richContents[:]...))
	if b, e := rom.Encode(rich()); e != api.OK || !bytes.Equal(b, want) {
		t.Errorf("Encode = %x, %d, want %x", b, e, want)
	}
	if want := sealed(framed(littleContents[:]...)); !bytes.Equal(encoded(little()), want) {
		t.Errorf("the second way has %x, want %x", encoded(little()), want)
	}
}

// P10.3: an image at all its limits.
func TestEncodeFull(t *testing.T) {
	t.Parallel()
	m := full()
	b, e := rom.Encode(m)
	if want := encoded(m); e != api.OK || !bytes.Equal(b, want) {
		t.Errorf("Encode: %d, %d bytes, want %d bytes", e, len(b), len(want))
	}
}

// P10.3, P10.4, W4: images at random are written as the second way writes them, and read as the same.
func TestImagesAtRandom(t *testing.T) {
	t.Parallel()
	r := rand.New(rand.NewSource(3))
	for range 5000 {
		m := anyImage(r)
		b, e := rom.Encode(m)
		if e != api.OK || !bytes.Equal(b, encoded(m)) {
			t.Fatalf("Encode of %+v: %d, %x, want %x", m, e, b, encoded(m))
		}
		again, f := rom.Decode(b)
		if f != (api.Fault{}) || !same(again, m) {
			t.Fatalf("Decode of %x: %v, %+v, want %+v", b, f, again, m)
		}
	}
}

// G4: nil lists are empty lists.
func TestEmptyLists(t *testing.T) {
	m := little()
	m.Tables.Groups, m.Tables.Conflicts, m.Dets, m.Vars, m.Pool = []api.Group{}, []api.Conflict{}, []api.Det{}, []int32{}, []int32{}
	none := little()
	none.Code = nil
	m.Code = m.Code[:0]
	a, e := rom.Encode(m)
	b, f := rom.Encode(none)
	if e != api.OK || f != api.OK || !bytes.Equal(a, b) {
		t.Errorf("empty lists: %x, %d, nil lists: %x, %d", a, e, b, f)
	}
}
