package wire_test

import (
	"bytes"
	"math"
	"math/rand"
	"testing"

	"junction/api"
	"junction/wire"
)

// numbers that no frame has, and those at the edges.
var anyNumbers = []int{0, 1, 3, 6, 7, 8, 9, 16, 255, 256, 264, -1, -8, -256, 1 << 32, math.MinInt, math.MaxInt, math.MinInt32, math.MaxInt32}

// P17.3: the chapter's rows.
func TestFrame(t *testing.T) {
	for _, c := range []struct {
		f    api.Frame
		body string
	}{
		{api.Frame{Kind: api.FrReady, Nr: 3}, "61"},
		{api.Frame{Kind: api.FrReady}, "01"},
		{api.Frame{Kind: api.FrReady, Nr: 7}, "E1"},
		{api.Frame{Kind: api.FrAgain}, "09"},
		{api.Frame{Kind: api.FrAgain, Nr: 7}, "E9"},
		{api.Frame{Kind: api.FrData}, "00"},
		{api.Frame{Kind: api.FrData, Ns: 1, Data: []byte{0x7E}}, "02 7E"},
		{api.Frame{Kind: api.FrData, Ns: 7, Nr: 7}, "EE"},
		{api.Frame{Kind: api.FrData, Ns: 5, Nr: 2, Data: []byte("a}~b")}, "4A 61 7D 7E 62"},
	} {
		checkFrame(t, c.f, raw(t, c.body))
	}
	got, e := wire.Frame(api.Frame{Kind: api.FrData, Ns: 1, Data: []byte{0x7E}})
	if want := raw(t, "7E 02 7D 5E"); e != api.OK || !bytes.HasPrefix(got, want) || got[len(got)-1] != 0x7E {
		t.Errorf("P17.3: %x, %d", got, e)
	}
}

// checkFrame looks at a frame that can be written, and reads it again.
func checkFrame(t *testing.T, f api.Frame, body []byte) {
	t.Helper()
	got, e := wire.Frame(f)
	if want := framed(body...); e != api.OK || !bytes.Equal(got, want) {
		t.Fatalf("P17.3: Frame(%+v) = %x, %d, want %x", f, got, e, want)
	}
	back, e := wire.Unframe(got[1 : len(got)-1])
	if e != api.OK || !sameFrame(back, f) {
		t.Fatalf("P17.4: Unframe(Frame(%+v)) = %+v, %d", f, back, e)
	}
}

// P17.3: all kinds and numbers, in and out of their range, with no data, a byte, MaxPiece bytes and one more.
func TestFrameFields(t *testing.T) {
	written := 0
	for _, kind := range []int{0, 1, 2, 3, 4, 9, 256, 257, -1, -2, math.MinInt, math.MaxInt} {
		for _, ns := range anyNumbers {
			for _, nr := range anyNumbers {
				for _, n := range []int{0, 1, 255, 256, 257, 512} {
					f := api.Frame{Kind: kind, Ns: ns, Nr: nr, Data: full(n, 0x7D)}
					got, e := wire.Frame(f)
					want, w := modelFrame(f)
					if e != w || !bytes.Equal(got, want) {
						t.Fatalf("P17.3: Frame of kind %d, %d, %d with %d bytes: %x, %d, want %x, %d", kind, ns, nr, n, got, e, want, w)
					}
					if e == api.OK {
						written++
					}
				}
			}
		}
	}
	if written != 5*5*4+2*5 {
		t.Errorf("%d frames", written)
	}
}

// P17.3, P17.4: sums of which the first byte, the last one, or both must be stuffed.
func TestFrameSumStuffed(t *testing.T) {
	left := map[uint16]bool{0x7E7E: true, 0x7E7D: true, 0x7D7E: true, 0x7D7D: true, 0x007E: true, 0x007D: true, 0x7E00: true, 0x7D00: true, 0x5E7D: true, 0x5D7D: true, 0x7D5E: true}
	for x := range 1 << 18 {
		body := []byte{byte(x % 8 * 2), byte(x >> 3), byte(x >> 11)}
		if sum := modelSum(body); left[sum] {
			delete(left, sum)
			checkFrame(t, api.Frame{Ns: x % 8, Data: body[1:]}, body)
		}
	}
	if len(left) != 0 {
		t.Errorf("no frame is found for %v", left)
	}
}

// P17.4: all control bytes, alone and with data.
func TestUnframeControl(t *testing.T) {
	taken := 0
	for x := range 256 {
		for n := range 3 {
			b := cut(append([]byte{byte(x)}, full(n, 5)...)...)
			want := api.ErrFrame
			f := api.Frame{Ns: x >> 1 & 7, Nr: x >> 5, Data: full(n, 5)}
			switch {
			case x&1 == 0 && x&16 == 0:
				want = api.OK
			case x&31 == 1 && n == 0:
				want, f.Kind, f.Ns = api.OK, api.FrReady, 0
			case x&31 == 9 && n == 0:
				want, f.Kind, f.Ns = api.OK, api.FrAgain, 0
			}
			got, e := wire.Unframe(b)
			if e != want || e == api.OK && !sameFrame(got, f) || e != api.OK && !sameFrame(got, api.Frame{}) {
				t.Errorf("P17.4: control byte %02X with %d bytes: %+v, %d, want %d", x, n, got, e, want)
			}
			if e == api.OK {
				taken++
			}
		}
	}
	if taken != 3*64+16 {
		t.Errorf("P17.4: %d frames", taken)
	}
}

// P17.4: frames of 3 bytes, of MaxPiece + 3, of one less and of one more.
func TestUnframeLength(t *testing.T) {
	for _, x := range []byte{0x00, 0x7D, 0x7E} {
		for n := range 600 {
			if n > 5 && n < 250 || n > 270 && n != 518 {
				continue
			}
			body := full(n, x)
			if n > 2 {
				body[0] = 0x4C
				sum := modelSum(body[:n-2])
				body[n-2], body[n-1] = byte(sum), byte(sum>>8)
			}
			want := api.OK
			if n < 3 || n > 259 {
				want = api.ErrFrame
			}
			if f, e := wire.Unframe(modelStuff(body)); e != want || e != api.OK && !sameFrame(f, api.Frame{}) {
				t.Errorf("P17.4: %d bytes: %d, want %d", n, e, want)
			}
		}
	}
	if f, e := wire.Unframe(nil); e != api.ErrFrame || !sameFrame(f, api.Frame{}) {
		t.Errorf("P17.4: no bytes: %+v, %d", f, e)
	}
}

// P17.4: where several things are wrong the first one of the chapter is told.
func TestUnframeOrder(t *testing.T) {
	long := full(260, 1)
	for _, c := range []struct {
		what string
		b    []byte
		want api.Errno
	}{
		{"a flag", []byte{0x7E}, api.ErrStuff},
		{"an escape alone", []byte{0x7D}, api.ErrStuff},
		{"a flag in a long one", append(bytes.Clone(long), 0x7E), api.ErrStuff},
		{"an escape at a long one's end", append(bytes.Clone(long), 0x7D), api.ErrStuff},
		{"a flag behind a good frame", append(cut(0x61), 0x7E), api.ErrStuff},
		{"a good frame with its flags", readyFrame(3), api.ErrStuff},
		{"an escape that is none, a wrong sum", []byte{1, 0x7D, 1, 2, 3}, api.ErrStuff},
		{"a wrong sum of a short one", []byte{1, 2}, api.ErrFrame},
		{"a wrong sum of a long one", long, api.ErrFrame},
		{"a short one, stuffed", []byte{0x7D, 0x5E, 0x7D, 0x5E}, api.ErrFrame},
		{"a wrong sum of no control byte", []byte{0x10, 1, 1}, api.ErrSum16},
		{"a wrong sum of a ready with data", []byte{0x01, 1, 1, 1}, api.ErrSum16},
		{"a sum with its high byte first", []byte{0x61, cut(0x61)[2], cut(0x61)[1]}, api.ErrSum16},
		{"a right sum of no control byte", cut(0x10), api.ErrFrame},
		{"a right sum of an again with data", cut(0x09, 1), api.ErrFrame},
		{"a right sum", cut(0x09), api.OK},
	} {
		f, e := wire.Unframe(c.b)
		if e != c.want || e != api.OK && !sameFrame(f, api.Frame{}) {
			t.Errorf("P17.4: %s: %+v, %d, want %d", c.what, f, e, c.want)
		}
	}
}

// P17.4: of all three bytes just those are let in that Frame writes between its flags.
func TestUnframeAllShort(t *testing.T) {
	t.Parallel()
	written := map[[3]byte]bool{}
	for _, f := range controls {
		if b, e := wire.Frame(f); e == api.OK && len(b) == 5 {
			written[[3]byte(b[1:4])] = true
		}
	}
	b := make([]byte, 3)
	taken := 0
	for x := range 1 << 24 {
		b[0], b[1], b[2] = byte(x), byte(x>>8), byte(x>>16)
		if _, e := wire.Unframe(b); e == api.OK {
			taken++
			if !written[[3]byte(b)] {
				t.Fatalf("P17.4: Unframe(%x) is let in", b)
			}
		}
	}
	if taken != len(written) || taken < 70 {
		t.Errorf("P17.4: %d let in, %d written", taken, len(written))
	}
}

// anyFrame is a frame that can be written.
func anyFrame(r *rand.Rand) api.Frame {
	f := api.Frame{Kind: pick(r, 0, 0, 1, 2), Nr: r.Intn(8)}
	if f.Kind == api.FrData {
		f.Ns, f.Data = r.Intn(8), anyData(r, pick(r, 0, 1, r.Intn(20), r.Intn(257), 256))
	}
	return f
}

// spoil changes bytes in some way; what comes out may be as it was.
func spoil(r *rand.Rand, b []byte) []byte {
	b = bytes.Clone(b)
	at := r.Intn(len(b) + 1)
	switch r.Intn(6) {
	case 0:
		return b[:at]
	case 1:
		return b[at:]
	case 2:
		return join(b[:at], anyData(r, 1+r.Intn(3)), b[at:])
	case 3:
		return join(b[:at], b[min(len(b), at+1+r.Intn(3)):])
	case 4:
		return join(b[:at], b[at/2:])
	}
	for range 1 + r.Intn(4) {
		if len(b) > 0 {
			b[r.Intn(len(b))] ^= 1 << r.Intn(8)
		}
	}
	return b
}

// P17.3, P17.4: at random, right and spoilt: Unframe gives back what Frame wrote, and Frame what Unframe took; both as the second way does.
func TestFramesAtRandom(t *testing.T) {
	t.Parallel()
	r := rand.New(rand.NewSource(173))
	seen := map[api.Errno]int{}
	for range 30000 {
		f := anyFrame(r)
		b, e := wire.Frame(f)
		if want, w := modelFrame(f); e != api.OK || w != api.OK || !bytes.Equal(b, want) {
			t.Fatalf("P17.3: Frame(%+v) = %x, %d, want %x, %d", f, b, e, want, w)
		}
		b = b[1 : len(b)-1]
		if back, e := wire.Unframe(b); e != api.OK || !sameFrame(back, f) {
			t.Fatalf("P17.4: Unframe(%x) = %+v, %d, want %+v", b, back, e, f)
		}
		switch r.Intn(4) {
		case 0: // a right sum of something else
			b = cut(anyData(r, pick(r, 1, 2, 5, 257, 258))...)
		case 1:
			b = anyData(r, r.Intn(6))
		default:
			b = spoil(r, b)
		}
		got, e := wire.Unframe(b)
		want, w := modelUnframe(b)
		if e != w || !sameFrame(got, want) {
			t.Fatalf("P17.4: Unframe(%x) = %+v, %d, want %+v, %d", b, got, e, want, w)
		}
		seen[e]++
		if e == api.OK {
			if again, e := wire.Frame(got); e != api.OK || !bytes.Equal(again, join([]byte{0x7E}, b, []byte{0x7E})) {
				t.Fatalf("P17.4: Frame(Unframe(%x)) = %x, %d", b, again, e)
			}
		}
	}
	for _, e := range []api.Errno{api.OK, api.ErrFrame, api.ErrSum16, api.ErrStuff} {
		if seen[e] < 300 {
			t.Errorf("%v", seen)
		}
	}
}
