package bank_test

import (
	"bytes"
	"fmt"
	"math"
	"math/rand"
	"slices"
	"testing"

	"junction/api"
	"junction/bank"
)

// P16.2 to P16.7: the chapter's examples, one behind the other.
func TestExamples(t *testing.T) {
	d := &desk{opened(t, blank(t, 4)), blank(t, 4)}
	d.wants(t, "Open", api.OK, api.OK, "2@0:4A424E4B01000000000800003FC2A831; ")
	d.wants(t, "Acts once more", api.OK, api.OK, "")
	d.wants(t, "Put(3)", d.Put(3, []byte{7, 9}), api.OK, "2@16:5003020000005AB9B97A070900; ")
	if e := d.Pick(3); e != api.OK {
		t.Errorf("P16.5: Pick(3): %d", e)
	}
	d.wants(t, "Pick(3), Pick(3)", d.Pick(3), api.OK, "2@29:4B0300000000DC21FD9300; ")
	d.wants(t, "Drop(3)", d.Drop(3), api.ErrInUse, "")
	d.wants(t, "Drop(2)", d.Drop(2), api.ErrEmpty, "")
	d.wants(t, "Drop(9)", d.Drop(9), api.ErrSlot, "")
	d.wants(t, "Pick(2)", d.Pick(2), api.ErrEmpty, "")
	d.wants(t, "Pick(-2)", d.Pick(-2), api.ErrSlot, "")
	d.wants(t, "Put of 2000", d.Put(0, full(2000, 1)), api.ErrSpace, "")
	d.wants(t, "Put of 1998", d.Put(0, full(1998, 1)), api.ErrSpace, "")
	d.wants(t, "Put of 1997", d.Put(0, full(1997, 1)), api.OK, "2@40:2008 bytes; ")
	d.wants(t, "Pick(-1)", d.Pick(-1), api.OK, "2@2064:2008 bytes; 2@4072:5003020000005AB9B97A070900; 2@2048:4A424E4B0200000000080000DCC527BF; ")
	if got := stateOf(t, d.Bank); !got.equal(held(0, string(full(1997, 1)), 3, "\x07\x09")) {
		t.Errorf("P16.5: %v", got)
	}
	checkState(t, "played", d.flash, held(0, string(full(1997, 1)), 3, "\x07\x09"))
}

// slots that there are not.
var noSlots = []int{-1, -2, 9, 10, 255, 256, 1 << 32, math.MinInt, math.MaxInt}

// refused makes a call that is to be refused, and looks whether anything is changed.
func refused(t *testing.T, d *desk, what string, c call, want api.Errno) {
	t.Helper()
	d.settle(t)
	ahead := stateOf(t, d.Bank)
	if e := c.on(d.Bank); e != want {
		t.Errorf("%s: %v: %d, want %d", what, c, e, want)
	}
	if acts, behind := d.Acts(), stateOf(t, d.Bank); len(acts) != 0 || !behind.equal(ahead) {
		t.Errorf("%s: %v: acts %s, %v, was %v", what, c, told(acts), behind, ahead)
	}
}

// P16.3: the refusals, and which of several comes first.
func TestPutRefuses(t *testing.T) {
	long := full(1<<20+1, 1)
	for _, d := range []*desk{begun(t, 4), onto(t, laid(4, half(4, maxGen, put(0, "zero"), choose(0), put(3, string(full(1900, 3)))), nil))} {
		for _, slot := range noSlots {
			for _, data := range [][]byte{nil, {}, {1}, full(3000, 1), long} {
				refused(t, d, "P16.3: no such slot", call{'P', slot, data}, api.ErrSlot)
			}
		}
		for slot := range 9 {
			for _, data := range [][]byte{nil, {}, long, full(1<<20+2, 1), full(3<<20, 1)} {
				refused(t, d, "P16.3: no data, or too much", call{'P', slot, data}, api.ErrData)
			}
			for _, n := range []int{2022, 2023, 3000, 1 << 20} {
				refused(t, d, "P16.3: no room", call{'P', slot, full(n, 1)}, api.ErrSpace)
			}
		}
	}
}

// P16.3: a state of just H bytes has room, also where it must be moved; one more has not.
func TestPutSpace(t *testing.T) {
	for _, sectors := range []int{4, 5, 6, 9} {
		h := sectors / 2 * 1024
		d := begun(t, sectors)
		refused(t, d, "P16.3: alone", call{'P', 4, full(h-26, 1)}, api.ErrSpace)
		d.wants(t, "P16.3: alone", d.Put(4, full(h-27, 1)), api.OK, fmt.Sprintf("2@16:%d bytes; ", h-16))
		refused(t, d, "P16.3: full", call{'P', 5, []byte{1}}, api.ErrSpace)
		refused(t, d, "P16.5: full", call{'K', 4, nil}, api.ErrSpace)
		refused(t, d, "P16.3: over itself", call{'P', 4, full(h-26, 2)}, api.ErrSpace)
		d.wants(t, "P16.3: over itself", d.Put(4, full(h-27, 2)), api.OK, fmt.Sprintf("2@%d:%d bytes; 2@%d:%X; ", h+16, h-16, h, modelHeader(2, h)))
		// With a slot picked there are 11 bytes less.
		d = begun(t, sectors)
		d.Put(1, []byte{1})
		d.Pick(1)
		refused(t, d, "P16.3: beside a pick", call{'P', 4, full(h-16-12-11-11+1, 1)}, api.ErrSpace)
		if e := d.Put(4, full(h-16-12-11-11, 1)); e != api.OK {
			t.Errorf("P16.3: beside a pick: %d", e)
		}
		// What the slot holds is let go, but the rest stays.
		refused(t, d, "P16.3: in the picked slot", call{'P', 1, full(2, 1)}, api.ErrSpace)
		if e := d.Put(4, full(h-16-12-11-11-40, 1)); e != api.OK {
			t.Errorf("P16.3: less: %d", e)
		}
		refused(t, d, "P16.3: in the picked slot", call{'P', 1, full(42, 1)}, api.ErrSpace)
		if e := d.Put(1, full(41, 1)); e != api.OK || d.Picked() != 1 {
			t.Errorf("P16.3: in the picked slot: %d", e)
		}
	}
}

// P16.3: a record that just fits up to the half's end is appended; one that is a byte longer has the state moved.
func TestPutFits(t *testing.T) {
	for _, sectors := range []int{4, 7} {
		h := sectors / 2 * 1024
		for over := range 3 {
			d := begun(t, sectors)
			d.Put(2, full(100, 2))
			d.Put(2, full(50, 3))
			d.settle(t)
			end := 16 + 111 + 61
			data := full(h-end-11+over, 9)
			want := fmt.Sprintf("2@%d:%d bytes; ", end, len(data)+11)
			if over > 0 {
				want = fmt.Sprintf("2@%d:61 bytes; 2@%d:%d bytes; 2@%d:%X; ", h+16, h+16+61, len(data)+11, h, modelHeader(2, h))
			}
			d.wants(t, "P16.3: to the end", d.Put(6, data), api.OK, want)
			if got := stateOf(t, d.Bank); !got.equal(held(2, string(full(50, 3)), 6, string(data))) {
				t.Errorf("P16.3: %v", got)
			}
			checkState(t, "to the end", d.flash, held(2, string(full(50, 3)), 6, string(data)))
		}
	}
}

// P16.3: data of MaxData bytes; the least flash that has room for them has 1025 sectors in a half.
func TestPutMaxData(t *testing.T) {
	t.Parallel()
	data := anyData(rand.New(rand.NewSource(1)), 1<<20)
	refused(t, begun(t, 2049), "P16.3: 1024 sectors", call{'P', 0, data}, api.ErrSpace)
	for _, sectors := range []int{2050, 4096} {
		d := begun(t, sectors)
		for _, slot := range []int{0, 8, 8} {
			fits := sectors == 4096 || slot == 0
			if e := d.Put(slot, data); (e == api.OK) != fits || !fits && e != api.ErrSpace {
				t.Errorf("P16.3: Put of MaxData bytes: %d", e)
			}
			if got, e := d.Get(slot); fits && (e != api.OK || !bytes.Equal(got, data)) {
				t.Errorf("P16.6: Get: %d bytes, %d", len(got), e)
			}
			data = slices.Clone(data[:len(data)-100])
		}
		d.settle(t)
		checkState(t, "MaxData", d.flash, stateOf(t, d.Bank))
		data = full(1<<20, 7)
	}
	// A record of one byte more, though it lies in the half, is not whole.
	f := laid(4096, half(4096, 1, put(1, "x"), put(2, string(full(1<<20+1, 7)))), nil)
	checkState(t, "more than MaxData", f, held(1, "x"))
	f = laid(4096, half(4096, 1, put(1, "x"), put(2, string(full(1<<20, 7)))), nil)
	checkState(t, "MaxData", f, held(1, "x", 2, string(full(1<<20, 7))))
}

// P16.3: the same data once more is written once more.
func TestPutAgain(t *testing.T) {
	d := begun(t, 4)
	for i := range 3 {
		d.wants(t, "P16.3: the same", d.Put(0, []byte("x")), api.OK, fmt.Sprintf("2@%d:%X; ", 16+12*i, put(0, "x")))
	}
}

// P16.4: the refusals in their order, and a drop that is appended or moved.
func TestDrop(t *testing.T) {
	d := begun(t, 4)
	for _, slot := range noSlots {
		refused(t, d, "P16.4: no such slot", call{'D', slot, nil}, api.ErrSlot)
	}
	for slot := range 9 {
		refused(t, d, "P16.4: empty", call{'D', slot, nil}, api.ErrEmpty)
	}
	for slot := range 9 {
		d.Put(slot, []byte{byte(slot)})
	}
	d.Pick(0)
	d.settle(t)
	refused(t, d, "P16.4: picked", call{'D', 0, nil}, api.ErrInUse)
	for slot := 1; slot < 9; slot++ {
		d.wants(t, "P16.4: Drop", d.Drop(slot), api.OK, fmt.Sprintf("2@%d:%X; ", 16+9*12+11*slot, drop(slot)))
		refused(t, d, "P16.4: dropped", call{'D', slot, nil}, api.ErrEmpty)
	}
	if got := stateOf(t, d.Bank); !got.equal(held(0, "\x00").picked(0)) {
		t.Errorf("P16.4: %v", got)
	}
	d.Pick(-1)
	d.Drop(0)
	d.settle(t)
	checkState(t, "dropped", d.flash, held())
	// With 11 bytes left it is appended, with 10 it is moved: without the slot that is dropped.
	for left := range 13 {
		d := begun(t, 4)
		d.Put(7, []byte("seven"))
		d.Put(1, full(2048-16-16-11-left, 1))
		d.settle(t)
		want := fmt.Sprintf("2@%d:%X; ", 2048-left, drop(1))
		if left < 11 {
			want = fmt.Sprintf("2@2064:%X; 2@2048:%X; ", put(7, "seven"), modelHeader(2, 2048))
		}
		d.wants(t, fmt.Sprint("P16.4: with ", left, " bytes left"), d.Drop(1), api.OK, want)
		if got := stateOf(t, d.Bank); !got.equal(held(7, "seven")) {
			t.Errorf("P16.4: %v", got)
		}
	}
}

// P16.5: the refusals in their order, no act where nothing changes, and a pick that is appended or moved.
func TestPick(t *testing.T) {
	d := begun(t, 4)
	for _, slot := range noSlots[1:] {
		refused(t, d, "P16.5: no such slot", call{'K', slot, nil}, api.ErrSlot)
	}
	refused(t, d, "P16.5: none is picked already", call{'K', -1, nil}, api.OK)
	for slot := range 9 {
		refused(t, d, "P16.5: empty", call{'K', slot, nil}, api.ErrEmpty)
	}
	for slot := range 9 {
		d.Put(slot, []byte{byte(slot)})
	}
	d.settle(t)
	for slot := range 9 {
		at := 16 + 9*12 + 11*slot
		d.wants(t, "P16.5: Pick", d.Pick(slot), api.OK, fmt.Sprintf("2@%d:4B%02X00000000%X00; ", at, slot, choose(slot)[6:10]))
		refused(t, d, "P16.5: picked already", call{'K', slot, nil}, api.OK)
		if d.Picked() != slot {
			t.Errorf("P16.6: Picked %d, want %d", d.Picked(), slot)
		}
	}
	d.wants(t, "P16.5: Pick(-1)", d.Pick(-1), api.OK, fmt.Sprintf("2@223:4BFF00000000%X00; ", choose(-1)[6:10]))
	refused(t, d, "P16.5: none is picked already", call{'K', -1, nil}, api.OK)
	// With 11 bytes left it is appended; with fewer the state has no room for it, unless there is more in the log than the state needs.
	for left := range 13 {
		d := begun(t, 4)
		d.Put(7, full(2048-16-11-left, 7))
		d.settle(t)
		if left < 11 {
			refused(t, d, "P16.5: no room", call{'K', 7, nil}, api.ErrSpace)
		} else {
			d.wants(t, "P16.5: to the end", d.Pick(7), api.OK, fmt.Sprintf("2@%d:%X; ", 2048-left, choose(7)))
		}
		d = begun(t, 4)
		d.Put(7, []byte("x"))
		d.Put(7, full(2048-16-12-11-left, 7))
		d.settle(t)
		want := fmt.Sprintf("2@%d:%X; ", 2048-left, choose(7))
		if left < 11 {
			want = fmt.Sprintf("2@2064:%d bytes; 2@%d:%X; 2@2048:%X; ", 2048-16-12-left, 2048+2048-12-left, choose(7), modelHeader(2, 2048))
		}
		d.wants(t, fmt.Sprint("P16.5: with ", left, " bytes left"), d.Pick(7), api.OK, want)
	}
	// Another slot takes no more room than the one that was picked; none takes less.
	for _, slot := range []int{2, -1} {
		d := begun(t, 4)
		d.Put(1, []byte("x"))
		d.Put(2, full(2048-16-12-11-11, 2))
		d.Pick(1)
		refused(t, d, "P16.5: full", call{'P', 3, []byte("x")}, api.ErrSpace)
		d.settle(t)
		if e := d.Pick(slot); e != api.OK || d.Picked() != slot {
			t.Errorf("P16.5: Pick(%d) of a full state: %d, %d", slot, e, d.Picked())
		}
		checkState(t, "picked", d.settled(t), stateOf(t, d.Bank))
	}
}

// settled is the flash behind all acts.
func (d *desk) settled(t *testing.T) []byte {
	t.Helper()
	d.settle(t)
	return d.flash
}

// P16.3 to P16.5: at generation MaxGen what fits is appended, and what does not fit is refused; ErrSpace comes first.
func TestWorn(t *testing.T) {
	data := string(full(1900, 7))
	for _, second := range []bool{false, true} {
		for _, gen := range []uint32{maxGen, maxGen - 1} {
			log := half(4, gen, put(1, "x"), put(2, "y"), put(1, "z"), choose(1), put(3, data))
			f := laid(4, log, nil)
			if second {
				f = laid(4, nil, log)
			}
			d := onto(t, f)
			left := 2048 - len(log)
			refused(t, d, "P16.3: worn", call{'P', 1, full(1<<20, 1)}, api.ErrSpace)
			refused(t, d, "P16.4: worn", call{'D', 1, nil}, api.ErrInUse)
			refused(t, d, "P16.4: worn", call{'D', 4, nil}, api.ErrEmpty)
			refused(t, d, "P16.5: worn", call{'K', 1, nil}, api.OK)
			// It is filled to 10 bytes, where neither a drop nor a pick fits.
			d.wants(t, "P16.3: what fits", d.Put(2, full(left-11-10, 5)), api.OK, fmt.Sprintf("2@%d:%d bytes; ", d.at(second, len(log)), left-10))
			if gen == maxGen {
				refused(t, d, "P16.3: worn", call{'P', 2, []byte("x")}, api.ErrWorn)
				refused(t, d, "P16.3: worn", call{'P', 1, []byte("z")}, api.ErrWorn)
				refused(t, d, "P16.4: worn", call{'D', 2, nil}, api.ErrWorn)
				refused(t, d, "P16.5: worn", call{'K', 2, nil}, api.ErrWorn)
				refused(t, d, "P16.5: worn", call{'K', -1, nil}, api.ErrWorn)
				refused(t, d, "P16.5: worn", call{'K', 1, nil}, api.OK)
				refused(t, d, "P16.5: worn", call{'K', 9, nil}, api.ErrSlot)
				refused(t, d, "P16.3: worn", call{'P', 1, full(100, 1)}, api.ErrSpace)
				checkState(t, "worn", d.flash, stateOf(t, d.Bank))
				continue
			}
			if e := d.Pick(2); e != api.OK || d.Picked() != 2 {
				t.Errorf("P16.5: from MaxGen - 1 on: %d", e)
			}
			acts := d.settle(t)
			if last := acts[len(acts)-1]; !bytes.Equal(last.Data, modelHeader(maxGen, 2048)) {
				t.Errorf("P16.5: the header of MaxGen: %X", last.Data)
			}
			checkState(t, "MaxGen", d.flash, stateOf(t, d.Bank))
		}
	}
	// A pick that is one too many for the state is ErrSpace, worn or not.
	d := onto(t, laid(4, half(4, maxGen, put(1, string(full(2048-16-11-10, 1)))), nil))
	refused(t, d, "P16.5: no room", call{'K', 1, nil}, api.ErrSpace)
}

// at is a place of a half in the flash.
func (d *desk) at(second bool, off int) int {
	if second {
		return len(d.flash)/2 + off
	}
	return off
}

// P16.6: Get, Slots and Picked.
func TestGet(t *testing.T) {
	d := begun(t, 4)
	if got := d.Slots(); len(got) != 0 || d.Picked() != -1 {
		t.Errorf("P16.6: %v, %d", got, d.Picked())
	}
	for _, slot := range noSlots {
		if data, e := d.Get(slot); len(data) != 0 || e != api.ErrSlot {
			t.Errorf("P16.6: Get(%d): %v, %d", slot, data, e)
		}
	}
	for i, slot := range []int{5, 0, 8, 3} {
		if data, e := d.Get(slot); len(data) != 0 || e != api.ErrEmpty {
			t.Errorf("P16.6: Get(%d): %v, %d", slot, data, e)
		}
		d.Put(slot, full(i+1, byte(slot)))
		if data, e := d.Get(slot); !bytes.Equal(data, full(i+1, byte(slot))) || e != api.OK {
			t.Errorf("P16.6: Get(%d): %v, %d", slot, data, e)
		}
	}
	if got := d.Slots(); !slices.Equal(got, []int{0, 3, 5, 8}) || d.Picked() != -1 {
		t.Errorf("P16.6: %v, %d", got, d.Picked())
	}
	d.Pick(5)
	d.Drop(0)
	if got := d.Slots(); !slices.Equal(got, []int{3, 5, 8}) || d.Picked() != 5 {
		t.Errorf("P16.6: %v, %d", got, d.Picked())
	}
	d.Put(5, []byte("other"))
	if data, e := d.Get(5); string(data) != "other" || e != api.OK || d.Picked() != 5 {
		t.Errorf("P16.6: %q, %d, %d", data, e, d.Picked())
	}
}

// P16.7: acts of several calls in their order, Open's own first; then none until something is written.
func TestActs(t *testing.T) {
	b := opened(t, make([]byte, 4096))
	b.Put(1, []byte("x"))
	b.Get(1)
	b.Pick(2)
	b.Pick(1)
	b.Drop(1)
	want := fmt.Sprintf("1@0:; 1@1024:; 2@0:%X; 2@16:%X; 2@28:%X; ", modelHeader(1, 2048), put(1, "x"), choose(1))
	if got := told(b.Acts()); got != want {
		t.Errorf("P16.7: %s, want %s", got, want)
	}
	for range 3 {
		if got := b.Acts(); len(got) != 0 {
			t.Errorf("P16.7: %s", told(got))
		}
	}
	b.Slots()
	b.Pick(1)
	if got := b.Acts(); len(got) != 0 {
		t.Errorf("P16.7: %s", told(got))
	}
	b.Pick(-1)
	if got := told(b.Acts()); got != fmt.Sprintf("2@39:%X; ", choose(-1)) {
		t.Errorf("P16.7: %s", got)
	}
	// A clean flash: Open has none.
	if got := opened(t, laid(4, half(4, 5, put(1, "x")), nil)).Acts(); len(got) != 0 {
		t.Errorf("P16.7: %s", told(got))
	}
}

// P16.10: a Bank that Open did not make.
func TestZeroBank(t *testing.T) {
	for _, b := range []*bank.Bank{{}, new(bank.Bank)} {
		for range 2 {
			for _, slot := range append(noSlots, 0, 1, 8) {
				for _, data := range [][]byte{nil, {1}, full(1<<20+1, 1)} {
					if e := b.Put(slot, data); e != api.ErrDisk {
						t.Errorf("P16.10: Put(%d): %d", slot, e)
					}
				}
				if e := b.Drop(slot); e != api.ErrDisk {
					t.Errorf("P16.10: Drop(%d): %d", slot, e)
				}
				if e := b.Pick(slot); e != api.ErrDisk {
					t.Errorf("P16.10: Pick(%d): %d", slot, e)
				}
				if data, e := b.Get(slot); len(data) != 0 || e != api.ErrDisk {
					t.Errorf("P16.10: Get(%d): %v, %d", slot, data, e)
				}
			}
			if len(b.Slots()) != 0 || len(b.Acts()) != 0 || b.Picked() != -1 {
				t.Errorf("P16.10: %v, %v, %d", b.Slots(), b.Acts(), b.Picked())
			}
		}
	}
}

// P16.3 to P16.7: all calls against the second way, over banks at random.
func TestCallsAtRandom(t *testing.T) {
	t.Parallel()
	r := rand.New(rand.NewSource(163))
	seen := map[string]int{}
	for range 300 {
		f := blank(t, 4+r.Intn(4))
		if r.Intn(3) == 0 {
			f = anyFlash(r)
		}
		b := checkOpen(t, "at random", f)
		if b == nil {
			continue
		}
		acts, _ := modelOpen(f)
		f, _ = modelPlay(f, acts, math.MaxInt, 0)
		for range 60 {
			c := anyCall(r, modelView(f))
			e := c.on(b)
			want, w := modelCall(f, c)
			if e != w {
				t.Fatalf("%v: %d, want %d", c, e, w)
			}
			if got := b.Acts(); !sameActs(got, want) {
				t.Fatalf("%v: acts %s, want %s", c, told(got), told(want))
			}
			f, _ = modelPlay(f, want, math.MaxInt, 0)
			if got, want := stateOf(t, b), modelView(f).plain; !got.equal(want) {
				t.Fatalf("%v: %v, want %v", c, got, want)
			}
			seen[fmt.Sprintf("%c %d", c.kind, e)]++
			if len(want) > 1 {
				seen[fmt.Sprintf("%c moved", c.kind)]++
			}
		}
	}
	for _, what := range []string{"P 0", "P 161", "P 163", "P 164", "P 167", "D 0", "D 161", "D 162", "D 165", "K 0", "K 161", "K 162", "K 163", "P moved", "D moved", "K moved"} {
		if seen[what] < 10 {
			t.Errorf("%s: %v", what, seen)
		}
	}
}
