package wire_test

import (
	"bytes"
	"math"
	"math/rand"
	"testing"

	"junction/api"
	"junction/wire"
)

// P17.5: a message of each kind as bytes, and back.
func TestPack(t *testing.T) {
	for _, c := range []struct {
		m    api.Msg
		want string
	}{
		{api.Msg{Kind: api.MsBegin, Slot: 255, Num: 258, Sum: 1 << 31}, "01 FF 02010000 00000080"},
		{api.Msg{Kind: api.MsBegin}, "01 00 00000000 00000000"},
		{api.Msg{Kind: api.MsPiece, Num: math.MaxUint32, Data: []byte{9, 8}}, "02 00 FFFFFFFF 00000000 0908"},
		{api.Msg{Kind: api.MsPiece, Data: []byte{0}}, "02 00 00000000 00000000 00"},
		{api.Msg{Kind: api.MsFinish}, "03 00 00000000 00000000"},
		{api.Msg{Kind: api.MsPick, Slot: 3}, "04 03 00000000 00000000"},
		{api.Msg{Kind: api.MsPick, Slot: 255}, "04 FF 00000000 00000000"},
		{api.Msg{Kind: api.MsDrop, Slot: 8}, "05 08 00000000 00000000"},
		{api.Msg{Kind: api.MsAsk}, "06 00 00000000 00000000"},
		{api.Msg{Kind: api.MsDone}, "0A 00 00000000 00000000"},
		{api.Msg{Kind: api.MsRefuse, Num: 160}, "0B 00 A0000000 00000000"},
		{api.Msg{Kind: api.MsTell, Slot: 1, Num: 0x04030201, Sum: 0x08070605}, "0C 01 01020304 05060708"},
	} {
		got, e := wire.Pack(c.m)
		if want := raw(t, c.want); e != api.OK || !bytes.Equal(got, want) {
			t.Errorf("P17.5: Pack(%+v) = %x, %d, want %x", c.m, got, e, want)
		}
		if m, e := wire.Unpack(raw(t, c.want)); e != api.OK || !sameMsg(m, c.m) {
			t.Errorf("P17.5: Unpack(%s) = %+v, %d, want %+v", c.want, m, e, c.m)
		}
	}
}

// checkPack looks at Pack of any message, and reads again what it has written.
func checkPack(t *testing.T, m api.Msg) bool {
	t.Helper()
	got, e := wire.Pack(m)
	want, w := modelPack(m)
	if e != w || !bytes.Equal(got, want) {
		t.Fatalf("P17.5: Pack(%+v) = %x, %d, want %x, %d", m, got, e, want, w)
	}
	if e != api.OK {
		return false
	}
	if len(got) > api.MaxPiece {
		t.Fatalf("P17.5: Pack(%+v) is longer than data may be", m)
	}
	if back, e := wire.Unpack(got); e != api.OK || !sameMsg(back, m) {
		t.Fatalf("P17.5: Unpack(Pack(%+v)) = %+v, %d", m, back, e)
	}
	return true
}

// P17.5: all kinds, those that there are not too, with each field used or not, and slots and data at their edges.
func TestPackFields(t *testing.T) {
	taken := 0
	var kinds []int
	for kind := -3; kind < 520; kind++ {
		kinds = append(kinds, kind)
	}
	for _, kind := range append(kinds, math.MinInt, math.MaxInt, 1<<32+1, -255, -250) {
		for _, slot := range []int{0, 1, 3, 8, 254, 255, 256, 257, 512, -1, -255, -256, 1 << 32, math.MinInt, math.MaxInt} {
			for _, num := range []uint32{0, 1, math.MaxUint32} {
				for _, sum := range []uint32{0, 1, 1 << 31} {
					for _, n := range []int{0, 1, 245, 246, 247, 256, 257} {
						if checkPack(t, api.Msg{Kind: kind, Slot: slot, Num: num, Sum: sum, Data: full(n, 7)}) {
							taken++
						}
					}
				}
			}
		}
	}
	if want := 6*9*2 + 3*3 + 3 + 6*2 + 3; taken != want {
		t.Errorf("P17.5: %d messages, want %d", taken, want)
	}
}

// P17.5: bytes that are no message: all kinds and lengths, each field alone.
func TestUnpackRefuses(t *testing.T) {
	for _, text := range []string{
		"", "01", "04 03 00000000 000000", "00 00 00000000 00000000", "07 00 00000000 00000000", "FF 00 00000000 00000000",
		"06 01 00000000 00000000", "06 00 01000000 00000000", "06 00 00000000 00000001", "06 00 00000000 00000000 00",
		"04 00 00000001 00000000", "04 00 00000000 01000000", "04 00 00000000 00000000 01", "0B 01 00000000 00000000", "0B 00 00000000 00010000",
		"02 00 00000000 00000000", "02 01 00000000 00000000 01", "02 00 00000000 00000100 01", "0C 00 00000000 00000000 00",
	} {
		if m, e := wire.Unpack(raw(t, text)); e != api.ErrMsg || !sameMsg(m, api.Msg{}) {
			t.Errorf("P17.5: Unpack(%s) = %+v, %d", text, m, e)
		}
	}
	if m, e := wire.Unpack(nil); e != api.ErrMsg || !sameMsg(m, api.Msg{}) {
		t.Errorf("P17.5: no bytes: %+v, %d", m, e)
	}
	taken := 0
	for kind := range 256 {
		for n := range 300 {
			for _, at := range []int{1, 2, 5, 6, 9} {
				b := make([]byte, n)
				if n > 0 {
					b[0] = byte(kind)
				}
				if n > at {
					b[at] = 0x80
				}
				if checkUnpack(t, b) {
					taken++
				}
			}
		}
	}
	if want := 2*5 + 246*2 + 2*1 + 2; taken != want {
		t.Errorf("P17.5: %d messages, want %d", taken, want)
	}
}

// checkUnpack looks at Unpack of any bytes, and writes again what it has read.
func checkUnpack(t *testing.T, b []byte) bool {
	t.Helper()
	got, e := wire.Unpack(b)
	want, w := modelUnpack(b)
	if e != w || !sameMsg(got, want) {
		t.Fatalf("P17.5: Unpack(%x) = %+v, %d, want %+v, %d", b, got, e, want, w)
	}
	if e != api.OK {
		return false
	}
	if back, e := wire.Pack(got); e != api.OK || !bytes.Equal(back, b) {
		t.Fatalf("P17.5: Pack(Unpack(%x)) = %x, %d", b, back, e)
	}
	return true
}

// anyMsg is a message, well formed mostly.
func anyMsg(r *rand.Rand) api.Msg {
	m := api.Msg{Kind: pick(r, 1, 2, 3, 4, 5, 6, 10, 11, 12)}
	for _, letter := range modelTable[m.Kind] {
		switch letter {
		case 's':
			m.Slot = r.Intn(256)
		case 'n':
			m.Num = r.Uint32()
		case 'u':
			m.Sum = r.Uint32()
		case 'd':
			m.Data = anyData(r, 1+r.Intn(246))
		}
	}
	switch r.Intn(12) {
	case 0:
		m.Kind = r.Intn(16) - 1
	case 1:
		m.Slot = r.Intn(300) - 20
	case 2:
		m.Num = r.Uint32()
	case 3:
		m.Sum = r.Uint32()
	case 4:
		m.Data = anyData(r, r.Intn(300))
	}
	return m
}

// P17.5: at random, each gives back what the other took.
func TestMessagesAtRandom(t *testing.T) {
	t.Parallel()
	r := rand.New(rand.NewSource(175))
	taken := [4]int{}
	for range 30000 {
		m := anyMsg(r)
		b, e := wire.Pack(m)
		if checkPack(t, m) {
			taken[0]++
		} else {
			taken[1]++
		}
		if e != api.OK || r.Intn(2) == 0 {
			b = anyData(r, r.Intn(270))
		} else {
			b = spoil(r, b)
		}
		if len(b) > 0 && r.Intn(2) == 0 {
			b[0] = byte(r.Intn(13))
		}
		if checkUnpack(t, b) {
			taken[2]++
		} else {
			taken[3]++
		}
	}
	for _, n := range taken {
		if n < 1000 {
			t.Errorf("%v", taken)
		}
	}
}
