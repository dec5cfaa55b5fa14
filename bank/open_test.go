package bank_test

import (
	"bytes"
	"encoding/binary"
	"fmt"
	"hash/crc32"
	"math/rand"
	"slices"
	"testing"

	"junction/api"
	"junction/bank"
)

// put, drop and choose are records.
func put(slot int, data string) []byte { return modelBytes('P', slot, data) }
func drop(slot int) []byte             { return modelBytes('D', slot, "") }
func choose(slot int) []byte           { return modelBytes('K', slot, "") }

// half is a header, of a flash of so many sectors, and what is behind it.
func half(sectors int, gen uint32, pieces ...[]byte) []byte {
	return append(modelHeader(gen, sectors/2*1024), bytes.Join(pieces, nil)...)
}

// laid is a flash whose halves begin so; all else is erased.
func laid(sectors int, first, second []byte) []byte {
	f := full(sectors*1024, 255)
	copy(f, first)
	copy(f[sectors/2*1024:], second)
	return f
}

// summed is a record with the sum put right.
func summed(b []byte) []byte {
	b = slices.Clone(b)
	n := len(b) - 1
	binary.LittleEndian.PutUint32(b[6:], crc32.ChecksumIEEE(slices.Concat(b[:6], b[10:n])))
	return b
}

// with is bytes of which one is another.
func with(b []byte, at int, x byte) []byte {
	b = slices.Clone(b)
	b[at] = x
	return b
}

// checkOpen holds Open against the second way, and answers the bank.
func checkOpen(t *testing.T, what string, flash []byte) *bank.Bank {
	t.Helper()
	b, e := bank.Open(flash)
	acts, want := modelOpen(flash)
	if e != want || (b == nil) != (e != api.OK) {
		t.Fatalf("P16.2: %s: Open: %d, want %d", what, e, want)
	}
	if b == nil {
		return nil
	}
	if got := b.Acts(); !sameActs(got, acts) {
		t.Fatalf("P16.2: %s: acts %s, want %s", what, told(got), told(acts))
	}
	if got, want := stateOf(t, b), modelView(flash).plain; !got.equal(want) {
		t.Fatalf("P16.2: %s: %v, want %v", what, got, want)
	}
	return b
}

// checkState holds Open's state against one that is told.
func checkState(t *testing.T, what string, flash []byte, want plain) {
	t.Helper()
	if got := stateOf(t, checkOpen(t, what, flash)); !got.equal(want) {
		t.Errorf("P16.2: %s: %v, want %v", what, got, want)
	}
}

// P16.2: no half is live: the first one is made so, whatever there is; only sectors that are not erased are erased.
func TestOpenNoHalf(t *testing.T) {
	const header4 = "2@0:4A424E4B01000000000800003FC2A831; "
	for _, c := range []struct {
		what string
		set  []int // bytes that are not 255
		want string
	}{
		{"blank", nil, header4},
		{"first byte", []int{0}, "1@0:; " + header4},
		{"the first sector's last byte", []int{1023}, "1@0:; " + header4},
		{"the second sector's first byte", []int{1024}, "1@1024:; " + header4},
		{"the half's last byte", []int{2047}, "1@1024:; " + header4},
		{"both sectors", []int{1500, 500}, "1@0:; 1@1024:; " + header4},
		{"the second half", []int{2048, 3072, 4095}, header4},
	} {
		for _, x := range []byte{0, 0xFE, 0x7F} {
			f := blank(t, 4)
			for _, at := range c.set {
				f[at] = x
			}
			b := checkOpen(t, c.what, f)
			if b.Acts(); len(b.Slots()) != 0 || b.Picked() != -1 {
				t.Errorf("P16.2: %s: %v", c.what, stateOf(t, b))
			}
			if got := told(opened(t, f).Acts()); got != c.want {
				t.Errorf("P16.2: %s: %s, want %s", c.what, got, c.want)
			}
		}
	}
	if got := told(opened(t, make([]byte, 4096)).Acts()); got != "1@0:; 1@1024:; "+header4 {
		t.Errorf("P16.2: zeros: %s", got)
	}
	// Of an odd number the last sector is not used.
	if got := told(opened(t, make([]byte, 5*1024)).Acts()); got != "1@0:; 1@1024:; "+header4 {
		t.Errorf("P16.2: five sectors of zeros: %s", got)
	}
	if got := told(opened(t, full(7*1024, 255)).Acts()); got != fmt.Sprintf("2@0:%X; ", modelHeader(1, 3072)) {
		t.Errorf("P16.2: seven sectors: %s", got)
	}
}

// P16.2: each thing by which a half is live, and which of two is active.
func TestOpenLive(t *testing.T) {
	for _, sectors := range []int{4, 5, 8, 4096} {
		h := sectors / 2 * 1024
		old, fresh := half(sectors, 6, put(1, "old")), half(sectors, 7, put(2, "new"))
		checkState(t, "two halves", laid(sectors, old, fresh), held(2, "new"))
		checkState(t, "two halves, the first one newer", laid(sectors, fresh, old), held(2, "new"))
		checkState(t, "one half", laid(sectors, fresh, nil), held(2, "new"))
		checkState(t, "the second half alone", laid(sectors, nil, fresh), held(2, "new"))
		for at := range 16 {
			for bit := range 8 {
				spoilt := with(fresh, at, fresh[at]^1<<bit)
				checkState(t, fmt.Sprint("a bit of byte ", at), laid(sectors, old, spoilt), held(1, "old"))
				checkState(t, fmt.Sprint("a bit of byte ", at), laid(sectors, spoilt, old), held(1, "old"))
				checkState(t, fmt.Sprint("a bit of byte ", at, " of one half"), laid(sectors, spoilt, nil), held())
			}
		}
		// Sums that are right, of headers that are not.
		for what, b := range map[string][]byte{
			"generation 0":              half(sectors, 0, put(2, "new")),
			"generation 2 to the 32 -1": half(sectors, 1<<32-1, put(2, "new")),
			"another H":                 append(modelHeader(7, h+1024), put(2, "new")...),
			"H in sectors":              append(modelHeader(7, h/1024), put(2, "new")...),
			"the flash's length":        append(modelHeader(7, 2*h), put(2, "new")...),
			"another magic":             append(binary.LittleEndian.AppendUint32([]byte("JBNL\x07\x00\x00\x00\x00\x08\x00\x00"), crc32.ChecksumIEEE([]byte("JBNL\x07\x00\x00\x00\x00\x08\x00\x00"))), put(2, "new")...),
		} {
			checkState(t, what, laid(sectors, old, b), held(1, "old"))
			checkState(t, what, laid(sectors, b, old), held(1, "old"))
			checkState(t, what+" alone", laid(sectors, b, nil), held())
		}
		for _, c := range []struct {
			first, second uint32
			want          plain
		}{
			{1, 1, held(1, "a")}, {1, 2, held(2, "b")}, {2, 1, held(1, "a")}, {maxGen, 1, held(1, "a")}, {1, maxGen, held(2, "b")},
			{maxGen, maxGen, held(1, "a")}, {maxGen, maxGen - 1, held(1, "a")}, {maxGen - 1, maxGen, held(2, "b")}, {1<<31 - 1, 1 << 31, held(2, "b")}, {1 << 31, 1<<31 - 1, held(1, "a")},
			{255, 256, held(2, "b")}, {0, 0, held()}, {0, 1, held(2, "b")}, {1, 0, held(1, "a")}, {1<<32 - 1, maxGen, held(2, "b")}, {maxGen, 1<<32 - 1, held(1, "a")},
		} {
			checkState(t, fmt.Sprint("generations ", c.first, c.second), laid(sectors, half(sectors, c.first, put(1, "a")), half(sectors, c.second, put(2, "b"))), c.want)
		}
	}
}

// P16.2: how a log is read.
func TestOpenReads(t *testing.T) {
	for _, c := range []struct {
		what string
		log  [][]byte
		want plain
	}{
		{"nothing", nil, held()},
		{"all slots", [][]byte{put(8, "i"), put(0, "a"), put(4, "e")}, held(0, "a", 4, "e", 8, "i")},
		{"a put over another", [][]byte{put(3, "long ago"), put(3, "now")}, held(3, "now")},
		{"a drop", [][]byte{put(3, "x"), put(4, "y"), drop(3)}, held(4, "y")},
		{"a drop of nothing", [][]byte{drop(3), put(4, "y")}, held(4, "y")},
		{"a pick", [][]byte{put(3, "x"), choose(3)}, held(3, "x").picked(3)},
		{"a pick of slot 0", [][]byte{put(0, "x"), choose(0)}, held(0, "x").picked(0)},
		{"a pick of slot 8", [][]byte{put(8, "x"), choose(8)}, held(8, "x").picked(8)},
		{"a pick of nothing", [][]byte{put(3, "x"), choose(2)}, held(3, "x")},
		{"a pick of nothing, filled later", [][]byte{choose(2), put(2, "x")}, held(2, "x")},
		{"a pick of nothing over one", [][]byte{put(3, "x"), choose(3), choose(2)}, held(3, "x")},
		{"a pick of none", [][]byte{put(3, "x"), choose(3), choose(-1)}, held(3, "x")},
		{"a pick of another", [][]byte{put(3, "x"), put(2, "y"), choose(3), choose(2)}, held(3, "x", 2, "y").picked(2)},
		{"a drop of what is picked", [][]byte{put(3, "x"), choose(3), drop(3)}, held()},
		{"a drop of what is picked, filled again", [][]byte{put(3, "x"), choose(3), drop(3), put(3, "y")}, held(3, "y")},
		{"a drop of another", [][]byte{put(3, "x"), put(2, "y"), choose(3), drop(2)}, held(3, "x").picked(3)},
		{"a put over what is picked", [][]byte{put(3, "x"), choose(3), put(3, "y")}, held(3, "y").picked(3)},
		{"a pick of what was dropped", [][]byte{put(3, "x"), drop(3), choose(3)}, held()},
	} {
		checkState(t, c.what, laid(4, half(4, 1, c.log...), nil), c.want)
		checkState(t, c.what+", second half", laid(5, nil, half(5, 9, c.log...)), c.want)
		if got := opened(t, laid(4, half(4, 1, c.log...), nil)).Acts(); len(got) != 0 {
			t.Errorf("P16.2: %s: acts %s", c.what, told(got))
		}
		// What is not erased behind the log has it moved, and the state stays.
		checkState(t, c.what+", not clean", laid(4, half(4, 1, append(c.log, []byte{0})...), []byte{0}), c.want)
	}
}

// P16.2: each thing by which a record is whole. What is not whole ends the log, and leaves it not clean.
func TestOpenWhole(t *testing.T) {
	ahead, behind := put(1, "ahead"), put(2, "behind")
	p, d, k := put(3, "data"), drop(1), choose(1)
	for _, c := range []struct {
		what  string
		b     []byte
		whole bool
	}{
		{"put", p, true}, {"drop", d, true}, {"pick", k, true}, {"pick none", choose(-1), true},
		{"slot 0", put(0, "data"), true}, {"slot 8", put(8, "data"), true}, {"slot 9", put(9, "data"), false}, {"slot 255", put(255, "data"), false},
		{"drop 0", drop(0), true}, {"drop 8", drop(8), true}, {"drop 9", drop(9), false}, {"drop 255", drop(255), false},
		{"pick 8", choose(8), true}, {"pick 9", choose(9), false}, {"pick 254", choose(254), false}, {"pick 255", choose(255), true},
		{"a put of no data", put(3, ""), false}, {"a put of one byte", put(3, "x"), true},
		{"a drop with data", modelBytes('D', 1, "x"), false}, {"a pick with data", modelBytes('K', 1, "x"), false},
		{"kind 0", modelBytes(0, 1, ""), false}, {"kind p", modelBytes('p', 1, "x"), false}, {"kind 255", modelBytes(255, 1, ""), false}, {"kind Q", modelBytes('Q', 3, "data"), false}, {"kind E", modelBytes('E', 3, ""), false},
		{"mark 1", with(p, len(p)-1, 1), false}, {"mark 255", with(p, len(p)-1, 255), false}, {"mark 128", with(d, len(d)-1, 128), false},
		{"slot turned", with(p, 1, 4), false}, {"slot turned and summed", summed(with(p, 1, 4)), true},
		{"length one less", with(p, 2, 3), false}, {"length one more", with(p, 2, 5), false}, {"length 2 to the 24 more", summed(with(p, 5, 1)), false}, {"length 2 to the 31 more", summed(with(p, 5, 0x80)), false},
		{"length of all ones", summed(with(with(with(with(p, 2, 255), 3, 255), 4, 255), 5, 255)), false},
		{"data turned", with(p, 11, 'A'), false}, {"data turned and summed", summed(with(p, 11, 'A')), true},
		{"sum byte 0", with(p, 6, p[6]^1), false}, {"sum byte 1", with(p, 7, p[7]^1), false}, {"sum byte 2", with(p, 8, p[8]^1), false}, {"sum byte 3", with(p, 9, p[9]^0x80), false},
	} {
		f := laid(4, half(4, 1, ahead, c.b, behind), nil)
		b := checkOpen(t, c.what, f)
		acts := told(opened(t, f).Acts())
		if got := slices.Contains(b.Slots(), 2); got != c.whole || (acts == "") != c.whole {
			t.Errorf("P16.2: %s: slots %v, acts %s", c.what, b.Slots(), acts)
		}
	}
}

// P16.2: a record may end at the half's end; one that ends a byte behind it is not whole, though its bytes lie in the flash.
func TestOpenAtTheEnd(t *testing.T) {
	for _, sectors := range []int{4, 5, 10} {
		h := sectors / 2 * 1024
		for over := -13; over <= 12; over++ {
			for _, last := range [][]byte{put(1, "x"), drop(0), choose(0)} {
				fill := put(0, string(full(h-16-11-len(last)+over, 'f')))
				log := half(sectors, 3, fill, last)
				f := laid(sectors, log, nil)
				checkOpen(t, fmt.Sprint(sectors, " first half, over ", over), f)
				b := opened(t, f)
				if clean := over <= 0 || over == len(last); clean != (len(b.Acts()) == 0) {
					t.Errorf("P16.2: %d bytes over: slots %v", over, b.Slots())
				}
				if sectors%2 == 1 {
					checkOpen(t, fmt.Sprint(sectors, " second half, over ", over), laid(sectors, nil, log))
				}
				// The record's head alone fits, or not even that.
				checkOpen(t, "cut", laid(sectors, log[:min(len(log), h-5)], nil))
			}
		}
	}
	// One record over all of the half, and one that would end behind it.
	for _, over := range []int{0, 1, 2, 1024} {
		f := laid(4, half(4, 3, put(0, string(full(2048-16-11+over, 'f')))), nil)
		b := checkOpen(t, "one record", f)
		if got := len(b.Slots()); (got == 1) != (over == 0) {
			t.Errorf("P16.2: %d bytes over: %d slots", over, got)
		}
	}
}

// P16.2: every byte from the log's end to the half's end must be 255, and no other.
func TestOpenClean(t *testing.T) {
	for _, sectors := range []int{4, 5} {
		log := half(sectors, 8, put(5, "five"), choose(5))
		for at := range sectors * 1024 {
			for second := range 2 {
				f := laid(sectors, log, nil)
				if second == 1 {
					f = laid(sectors, half(sectors, 2), log)
				}
				from := second * 2048
				if at >= from && at < from+len(log) || second == 1 && at < 16 {
					continue
				}
				f[at] ^= pick[byte](rand.New(rand.NewSource(int64(at))), 1, 0x80, 0xFF)
				b, e := bank.Open(f)
				if clean := at < from || at >= from+2048; e != api.OK || clean != (len(b.Acts()) == 0) {
					t.Errorf("P16.2: byte %d, half %d: %d", at, second, e)
				}
				if at%97 == 0 || at%1024 == 1023 {
					checkState(t, fmt.Sprint("byte ", at), f, held(5, "five").picked(5))
				}
			}
		}
	}
	// The chapter's layout of a move: the puts rising, the pick behind them, the header last.
	f := laid(4, half(4, 1, put(7, "g"), put(0, "a"), choose(7), put(3, "c"), drop(0), []byte{0x7F}), with(full(1500, 255), 1200, 3))
	want := fmt.Sprintf("1@3072:; 2@2064:%X; 2@2076:%X; 2@2088:%X; 2@2048:%X; ", put(3, "c"), put(7, "g"), choose(7), modelHeader(2, 2048))
	if got := told(opened(t, f).Acts()); got != want {
		t.Errorf("P16.2: %s, want %s", got, want)
	}
}

// P16.2: a log that is not clean cannot be moved from generation MaxGen; one that is clean needs no move.
func TestOpenWorn(t *testing.T) {
	for _, c := range []struct {
		gen   uint32
		clean bool
		want  api.Errno
	}{
		{maxGen, true, api.OK}, {maxGen, false, api.ErrWorn}, {maxGen - 1, false, api.OK}, {maxGen - 1, true, api.OK}, {1, false, api.OK},
	} {
		log := half(4, c.gen, put(5, "five"))
		if !c.clean {
			log = append(log, 0)
		}
		for _, f := range [][]byte{laid(4, log, nil), laid(4, nil, log), laid(4, log, half(4, 1, put(1, "x"))), laid(4, log, half(4, c.gen, put(1, "x")))} {
			b, e := bank.Open(f)
			if e != c.want || (b == nil) != (e != api.OK) {
				t.Errorf("P16.2: generation %d, clean %v: %d", c.gen, c.clean, e)
			}
			checkOpen(t, "worn", f)
		}
	}
	// Not clean is the half that is not active: that is no matter.
	checkState(t, "the other half", laid(4, half(4, maxGen-1, []byte{0}), half(4, maxGen, put(1, "x"))), held(1, "x"))
}

// P16.2: a bank has a flash of its own: what becomes of the one that was handed in is not seen.
func TestOpenCopies(t *testing.T) {
	f := laid(4, half(4, 1, put(1, "one"), put(2, "two"), choose(1)), nil)
	g := slices.Clone(f)
	b := opened(t, f)
	clear(f)
	if got := stateOf(t, b); !got.equal(held(1, "one", 2, "two").picked(1)) {
		t.Errorf("P16.2: %v", got)
	}
	c := opened(t, g)
	for i := range 300 {
		if e := c.Put(i%9, full(50, byte(i))); e != api.OK {
			t.Fatalf("Put: %d", e)
		}
	}
	if !bytes.Equal(g, laid(4, half(4, 1, put(1, "one"), put(2, "two"), choose(1)), nil)) {
		t.Errorf("P16.11: the flash that was handed in is changed")
	}
}

// anyFlash is one with logs in one half or both, right or spoilt.
func anyFlash(r *rand.Rand) []byte {
	sectors := 4 + r.Intn(5)
	log := func() []byte {
		gen := pick(r, 1, 2, 3, 4, maxGen-1, maxGen, 0, 1<<32-1, r.Uint32())
		var list [][]byte
		for range r.Intn(pick(r, 5, 40)) {
			slot := r.Intn(9)
			list = append(list, pick(r, put(slot, string(anyData(r, 1+r.Intn(60)))), put(slot, string(anyData(r, 1+r.Intn(600)))), drop(slot), choose(slot), choose(-1)))
		}
		b := half(sectors, gen, list...)
		for range pick(r, 0, 0, 1, 2) {
			b[r.Intn(len(b))] ^= 1 << r.Intn(8)
		}
		return b[:pick(r, len(b), len(b), r.Intn(len(b)))]
	}
	f := laid(sectors, log(), nil)
	if r.Intn(2) == 0 {
		copy(f[sectors/2*1024:], log())
	}
	for range pick(r, 0, 0, 0, 1, 3) {
		f[r.Intn(len(f))] = byte(r.Intn(256))
	}
	return f
}

// P16.2: Open against the second way, over flashes at random.
func TestOpenAtRandom(t *testing.T) {
	t.Parallel()
	r := rand.New(rand.NewSource(162))
	seen := map[string]int{}
	for range 6000 {
		f := anyFlash(r)
		b := checkOpen(t, "at random", f)
		v := modelView(f)
		switch {
		case b == nil:
			seen["worn"]++
		case v.active == -1:
			seen["formed"]++
		case v.clean:
			seen["clean"]++
		default:
			seen["moved"]++
		}
		if v.active == 1 {
			seen["second"]++
		}
	}
	for _, what := range []string{"worn", "formed", "clean", "moved", "second"} {
		if seen[what] < 100 {
			t.Errorf("%v", seen)
		}
	}
}
