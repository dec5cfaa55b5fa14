package bank_test

import (
	"bytes"
	"math"
	"math/rand"
	"testing"

	"junction/api"
	"junction/bank"
)

// P16.1: every number of sectors near the limits, and far from them.
func TestBlank(t *testing.T) {
	for _, sectors := range []int{4, 5, 6, 7, 8, 64, 4095, 4096} {
		f, e := bank.Blank(sectors)
		if e != api.OK || !bytes.Equal(f, full(sectors*1024, 255)) {
			t.Errorf("P16.1: Blank(%d): %d bytes, %d", sectors, len(f), e)
		}
	}
	for _, sectors := range []int{3, 2, 1, 0, -1, -4, 4097, 5000, 1 << 31, 1 << 32, 1<<32 + 4, 1<<54 + 4, math.MaxInt, math.MinInt} {
		if f, e := bank.Blank(sectors); e != api.ErrDisk || len(f) != 0 {
			t.Errorf("P16.1: Blank(%d): %d bytes, %d", sectors, len(f), e)
		}
	}
}

// lengths are those of lists that are no flash.
var lengths = []int{0, 1, 1023, 1024, 3072, 4095, 4097, 5000, 4096*1024 - 1, 4096*1024 + 1, 4097 * 1024}

// P16.2, P16.8: a list of any other length than that of 4 to 4096 sectors is no flash.
func TestNoFlash(t *testing.T) {
	for _, n := range lengths {
		for _, f := range [][]byte{make([]byte, n), full(n, 255)} {
			if b, e := bank.Open(f); b != nil || e != api.ErrDisk {
				t.Errorf("P16.2: Open of %d bytes: %v, %d", n, b != nil, e)
			}
			if g, e := bank.Play(f, nil, 0, 0); len(g) != 0 || e != api.ErrDisk {
				t.Errorf("P16.8: Play on %d bytes: %d, %d", n, len(g), e)
			}
			// It comes ahead of acts that no flash can do.
			if g, e := bank.Play(f, []api.Act{{}}, 0, 0); len(g) != 0 || e != api.ErrDisk {
				t.Errorf("P16.8: Play on %d bytes: %d, %d", n, len(g), e)
			}
		}
	}
	if b, e := bank.Open(nil); b != nil || e != api.ErrDisk {
		t.Errorf("P16.2: Open(nil): %d", e)
	}
	for _, sectors := range []int{4, 5, 4095, 4096} {
		if b, e := bank.Open(blank(t, sectors)); b == nil || e != api.OK {
			t.Errorf("P16.2: Open of %d sectors: %d", sectors, e)
		}
	}
}

// P16.8: the chapter's example, and each kind of step with all and with some of its bits.
func TestPlaySteps(t *testing.T) {
	for _, c := range []struct {
		was  byte
		act  api.Act
		torn byte
		want byte
	}{
		{0xFF, program(7, []byte{2}), 0x0F, 0xF2},
		{0xFF, program(7, []byte{2}), 0xFF, 0x02},
		{0xFF, program(7, []byte{2}), 0x00, 0xFF},
		{0xFF, program(7, []byte{2}), 0x02, 0xFF},
		{0xA5, program(7, []byte{0x0F}), 0xFF, 0x05},
		{0xA5, program(7, []byte{0x0F}), 0x80, 0x25},
		{0x00, program(7, []byte{0xFF}), 0xFF, 0x00},
		{0x00, program(7, []byte{0x55}), 0x55, 0x00},
	} {
		f := blank(t, 4)
		f[7] = c.was
		g := cut(t, f, []api.Act{c.act}, 0, c.torn)
		if g[7] != c.want || !bytes.Equal(g[8:], f[8:]) || !bytes.Equal(g[:7], f[:7]) {
			t.Errorf("P16.8: %02X, %02X, torn %02X: %02X, want %02X", c.was, c.act.Data, c.torn, g[7], c.want)
		}
	}
	for _, c := range []struct{ was, torn, want byte }{
		{0x00, 0x0F, 0x0F}, {0x00, 0xFF, 0xFF}, {0x5A, 0x00, 0x5A}, {0x5A, 0x81, 0xDB}, {0xFF, 0x01, 0xFF},
	} {
		f := blank(t, 4)
		f[1024] = c.was
		if g := cut(t, f, []api.Act{{Kind: api.AcErase, Off: 1024}}, 0, c.torn); g[1024] != c.want {
			t.Errorf("P16.8: erase of %02X, torn %02X: %02X, want %02X", c.was, c.torn, g[1024], c.want)
		}
	}
	f := cut(t, blank(t, 4), []api.Act{program(0, []byte{1, 2})}, 1, 0x0F)
	if !bytes.Equal(f[:3], []byte{0x01, 0xF2, 0xFF}) {
		t.Errorf("P16.8: %X", f[:3])
	}
}

// P16.8: an erase is of one sector from its first to its last byte; programs go from the first byte on; n counts over all acts.
func TestPlayCounts(t *testing.T) {
	zeros := make([]byte, 5*1024)
	acts := []api.Act{program(5000, nil), {Kind: api.AcErase, Off: 2048}, program(2048, []byte{1, 2, 3}), {Kind: api.AcErase, Off: 4096}, program(5*1024, nil)}
	for _, n := range []int{math.MinInt, -1, 0, 1, 2, 1023, 1024, 1025, 1026, 1027, 1028, 2050, 2051, 2052, math.MaxInt} {
		for _, torn := range []byte{0, 0x01, 0x80, 0xFF} {
			got, e := bank.Play(zeros, acts, n, torn)
			want, _ := modelPlay(zeros, acts, n, torn)
			if e != api.OK || !bytes.Equal(got, want) {
				t.Errorf("P16.8: Play of %d steps, torn %02X: %d", n, torn, e)
			}
		}
	}
	f := cut(t, zeros, acts, 3, 0)
	if !bytes.Equal(f[2047:2052], []byte{0, 255, 255, 255, 0}) {
		t.Errorf("P16.8: %X", f[2047:2052])
	}
	f = played(t, zeros, acts)
	if !bytes.Equal(f[2047:2052], []byte{0, 1, 2, 3, 255}) || f[3071] != 255 || f[3072] != 0 || f[4095] != 0 || !bytes.Equal(f[4096:], full(1024, 255)) {
		t.Errorf("P16.8: %X", f[2040:2060])
	}
	// All of the next step's bits are the step.
	if !bytes.Equal(cut(t, zeros, acts, 1000, 255), cut(t, zeros, acts, 1001, 0)) {
		t.Errorf("P16.8: a step of all bits is none")
	}
}

// P16.8: acts that the flash cannot do are refused wherever they stand, done or not.
func TestPlayRefuses(t *testing.T) {
	f := blank(t, 5)
	good := program(0, []byte{0})
	for _, a := range []api.Act{
		{}, {Kind: 3}, {Kind: -1}, {Kind: 255}, {Kind: math.MaxInt}, {Kind: 1<<32 + 1}, {Kind: 0, Data: []byte{1}},
		{Kind: 1, Off: 1}, {Kind: 1, Off: -1024}, {Kind: 1, Off: 1023}, {Kind: 1, Off: 512}, {Kind: 1, Off: 5 * 1024}, {Kind: 1, Off: 6 * 1024}, {Kind: 1, Off: math.MinInt}, {Kind: 1, Off: math.MaxInt - 1023},
		{Kind: 1, Data: []byte{255}}, {Kind: 1, Off: 1024, Data: make([]byte, 1024)},
		{Kind: 2, Off: -1}, {Kind: 2, Off: -1, Data: []byte{1}}, {Kind: 2, Off: 5*1024 + 1}, {Kind: 2, Off: 5 * 1024, Data: []byte{1}}, {Kind: 2, Off: 5*1024 - 1, Data: []byte{1, 2}},
		{Kind: 2, Off: math.MaxInt}, {Kind: 2, Off: math.MaxInt, Data: []byte{1}}, {Kind: 2, Off: math.MinInt, Data: []byte{1}}, {Kind: 2, Data: make([]byte, 5*1024+1)},
	} {
		for _, acts := range [][]api.Act{{a}, {good, a}, {a, good}, {good, good, a, good}} {
			for _, n := range []int{-1, 0, 1, 1 << 30} {
				if g, e := bank.Play(f, acts, n, 255); e != api.ErrAct || len(g) != 0 {
					t.Errorf("P16.8: Play of %v: %d bytes, %d", told(acts), len(g), e)
				}
			}
		}
	}
	for _, a := range []api.Act{
		{Kind: 1}, {Kind: 1, Off: 4096, Data: []byte{}}, {Kind: 2}, {Kind: 2, Off: 5 * 1024}, {Kind: 2, Off: 5*1024 - 1, Data: []byte{1}}, {Kind: 2, Data: make([]byte, 5*1024)},
	} {
		if g, e := bank.Play(f, []api.Act{a}, 0, 0); e != api.OK || !bytes.Equal(g, f) {
			t.Errorf("P16.8: Play of %v: %d", told([]api.Act{a}), e)
		}
	}
}

// anyActs are acts that a flash of so many sectors can do, but for some.
func anyActs(r *rand.Rand, sectors int) []api.Act {
	var acts []api.Act
	for range r.Intn(8) {
		switch off := r.Intn(sectors * 1024); r.Intn(3) {
		case 0:
			acts = append(acts, api.Act{Kind: api.AcErase, Off: off / 1024 * 1024})
		default:
			acts = append(acts, program(off, anyData(r, min(r.Intn(50), sectors*1024-off))))
		}
	}
	if len(acts) > 0 && r.Intn(5) == 0 {
		a := &acts[r.Intn(len(acts))]
		switch r.Intn(3) {
		case 0:
			a.Kind = pick(r, 0, 1, 2, 3, -1)
		case 1:
			a.Off = pick(r, -1, a.Off+1, a.Off+sectors*1024, 1<<63-1, sectors*1024)
		case 2:
			a.Data = append(a.Data, 0)
		}
	}
	return acts
}

// P16.8, P16.9: Play and Steps against the second way, over flashes and acts at random.
func TestPlayAtRandom(t *testing.T) {
	t.Parallel()
	r := rand.New(rand.NewSource(168))
	seen := map[api.Errno]int{}
	for range 3000 {
		sectors := 4 + r.Intn(3)
		f := anyData(r, sectors*1024)
		acts := anyActs(r, sectors)
		n := r.Intn(bank.Steps(acts)+3) - 1
		torn := byte(r.Intn(256))
		got, e := bank.Play(f, acts, n, torn)
		want, w := modelPlay(f, acts, n, torn)
		if e != w || !bytes.Equal(got, want) {
			t.Fatalf("P16.8: Play of %s, %d, %02X: %d, want %d", told(acts), n, torn, e, w)
		}
		seen[e]++
	}
	if seen[api.OK] < 1000 || seen[api.ErrAct] < 100 {
		t.Errorf("%v", seen)
	}
}

// P16.9: whatever acts are, also such as no flash can do.
func TestSteps(t *testing.T) {
	for _, c := range []struct {
		acts []api.Act
		want int
	}{
		{nil, 0},
		{[]api.Act{}, 0},
		{[]api.Act{{Kind: 1}}, 1024},
		{[]api.Act{{Kind: 1, Off: -5, Data: []byte{1, 2}}}, 1024},
		{[]api.Act{{Kind: 2}}, 0},
		{[]api.Act{{Kind: 2, Off: -5, Data: []byte{1, 2}}}, 2},
		{[]api.Act{{Kind: 0, Data: []byte{1}}, {Kind: 3, Data: []byte{1}}, {Kind: -1, Data: []byte{1}}}, 0},
		{[]api.Act{{Kind: 2, Data: make([]byte, 77)}, {Kind: 1}, {Kind: 9, Data: []byte{1}}, {Kind: 1}, {Kind: 2, Data: []byte{1}}}, 2126},
	} {
		if n := bank.Steps(c.acts); n != c.want {
			t.Errorf("P16.9: Steps of %s: %d, want %d", told(c.acts), n, c.want)
		}
	}
}
