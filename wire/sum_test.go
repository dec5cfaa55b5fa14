package wire_test

import (
	"bytes"
	"math/big"
	"math/rand"
	"testing"

	"junction/wire"
)

// P17.1: known sums.
func TestSum16(t *testing.T) {
	for _, c := range []struct {
		text string
		want uint16
	}{
		{"", 0}, {"123456789", 0x906E}, {"A", 0xA3F5}, {"\x00", 0xF078}, {"\xff", 0xFF00},
	} {
		if got := wire.Sum16([]byte(c.text)); got != c.want {
			t.Errorf("P17.1: Sum16(%q) = %04X, want %04X", c.text, got, c.want)
		}
		if one, two := modelSum([]byte(c.text)), divided([]byte(c.text)); one != c.want || two != c.want {
			t.Errorf("the other ways of %q: %04X, %04X, want %04X", c.text, one, two, c.want)
		}
	}
	if got := wire.Sum16(nil); got != 0 {
		t.Errorf("P17.1: Sum16 of no bytes = %04X", got)
	}
}

// divided is the remainder of a polynomial whose highest term is the first byte's lowest bit, by 0x1021 and its highest term. Begun with ones: the first 16 terms are turned.
func divided(b []byte) uint16 {
	n := new(big.Int)
	for _, x := range b {
		for bit := range 8 {
			n.Lsh(n, 1)
			n.SetBit(n, 0, uint(x>>bit&1))
		}
	}
	n.Lsh(n, 16)
	for i := range 16 {
		at := 8*len(b) + 15 - i
		n.SetBit(n, at, n.Bit(at)^1)
	}
	divisor := big.NewInt(0x11021)
	for n.BitLen() >= 17 {
		n.Xor(n, new(big.Int).Lsh(divisor, uint(n.BitLen()-17)))
	}
	var sum uint16
	for i := range 16 {
		sum = sum<<1 | uint16(n.Bit(i)^1)
	}
	return sum
}

// P17.1: all texts of one and two bytes, and texts of many lengths, by shifts and by division; a text with its sum behind it always has the same sum.
func TestSum16AsTold(t *testing.T) {
	t.Parallel()
	for x := range 65536 {
		two := []byte{byte(x), byte(x >> 8)}
		for _, b := range [][]byte{two, two[:1]} {
			if got := wire.Sum16(b); got != modelSum(b) {
				t.Fatalf("P17.1: Sum16(%x) = %04X, want %04X", b, got, modelSum(b))
			}
		}
	}
	r := rand.New(rand.NewSource(1))
	for n := range 600 {
		b := anyData(r, n)
		kept := bytes.Clone(b)
		got := wire.Sum16(b)
		if got != modelSum(b) || n < 300 && got != divided(b) {
			t.Fatalf("P17.1: Sum16(%x) = %04X, want %04X", b, got, modelSum(b))
		}
		if !bytes.Equal(b, kept) {
			t.Fatalf("Sum16 changed %x", kept)
		}
		if whole := wire.Sum16(append(kept, byte(got), byte(got>>8))); whole != 0x0F47 {
			t.Fatalf("P17.1: of %x with its sum: %04X", b, whole)
		}
	}
}

// P17.1: bytes may be of any length.
func TestSum16OfManyBytes(t *testing.T) {
	t.Parallel()
	b := bytes.Repeat([]byte("\x00signal\xff"), 1<<18)
	if got := wire.Sum16(b); got != modelSum(b) {
		t.Errorf("P17.1: Sum16 of %d bytes = %04X, want %04X", len(b), got, modelSum(b))
	}
}
