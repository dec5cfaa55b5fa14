package rom_test

import (
	"bytes"
	"hash/crc32"
	"math/rand"
	"testing"

	"junction/rom"
)

// P10.1: known sums.
func TestSum(t *testing.T) {
	for text, want := range map[string]uint32{
		"":                 0,
		"123456789":        0xCBF43926,
		"a":                0xE8B7BE43,
		"\x00":             0xD202EF8D,
		"\xff":             0xFF000000,
		"\x00\x00\x00\x00": 0x2144DF1C,
		"The quick brown fox jumps over the lazy dog": 0x414FA339,
	} {
		if got := rom.Sum([]byte(text)); got != want {
			t.Errorf("Sum(%q) = %08X, want %08X", text, got, want)
		}
	}
	if got := rom.Sum(nil); got != 0 {
		t.Errorf("Sum(nil) = %08X", got)
	}
}

// P10.1: each byte, and bytes of many lengths, by the shifts that the chapter tells and by the library.
func TestSumAsToldByShifts(t *testing.T) {
	t.Parallel()
	r := rand.New(rand.NewSource(1))
	shifted := func(b []byte) uint32 {
		sum := uint32(0xFFFFFFFF)
		for _, x := range b {
			for bit := range 8 {
				low := sum&1 ^ uint32(x)>>bit&1
				sum >>= 1
				if low == 1 {
					sum ^= 0xEDB88320
				}
			}
		}
		return ^sum
	}
	for x := range 256 {
		if b := []byte{byte(x)}; rom.Sum(b) != shifted(b) {
			t.Errorf("Sum(%x) = %08X, want %08X", b, rom.Sum(b), shifted(b))
		}
	}
	for n := range 600 {
		b := make([]byte, n)
		r.Read(b)
		kept := bytes.Clone(b)
		if got := rom.Sum(b); got != shifted(b) || got != crc32.ChecksumIEEE(b) {
			t.Errorf("Sum(%x) = %08X, want %08X", b, got, shifted(b))
		}
		if !bytes.Equal(b, kept) {
			t.Errorf("Sum changed %x", kept)
		}
	}
}

// P10.1: bytes may be of any length.
func TestSumOfManyBytes(t *testing.T) {
	t.Parallel()
	b := bytes.Repeat([]byte("\x00signal\xff"), 1<<20)
	if got, want := rom.Sum(b), crc32.ChecksumIEEE(b); got != want {
		t.Errorf("Sum of %d bytes = %08X, want %08X", len(b), got, want)
	}
}
