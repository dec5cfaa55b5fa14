package rom_test

import (
	"bytes"
	"fmt"
	"math/rand"
	"reflect"
	"sync"
	"testing"

	"junction/api"
	"junction/rom"
)

// G3: an image that is handed in is not changed, and its bytes are new memory.
func TestEncodeKeepsNothing(t *testing.T) {
	t.Parallel()
	r := rand.New(rand.NewSource(20))
	for range 300 {
		m := copied(anyImage(r))
		kept := copied(m)
		b, _ := rom.Encode(m)
		again, _ := rom.Encode(m)
		if !reflect.DeepEqual(m, kept) {
			t.Fatalf("Encode has changed %+v to %+v", kept, m)
		}
		if shares(m, b, again) {
			t.Fatalf("what Encode answers of %+v shares memory", m)
		}
		clear(b)
		if !bytes.Equal(again, encoded(m)) {
			t.Fatalf("two answers of Encode of %+v share memory", m)
		}
	}
}

// G3: bytes that are handed in are not changed, and the image is new memory throughout.
func TestDecodeKeepsNothing(t *testing.T) {
	t.Parallel()
	r := rand.New(rand.NewSource(21))
	for range 300 {
		want := anyImage(r)
		b := encoded(want)
		kept := bytes.Clone(b)
		m, f := rom.Decode(b)
		again, _ := rom.Decode(b)
		if f != (api.Fault{}) || !bytes.Equal(b, kept) {
			t.Fatalf("Decode(%x): %v, %x", kept, f, b)
		}
		if shares(b, m, again) {
			t.Fatalf("what Decode answers of %x shares memory", b)
		}
		clear(b)
		if !same(m, want) {
			t.Fatalf("Decode(%x) keeps what it was given", kept)
		}
	}
	m, _ := rom.Decode(encoded(full()))
	if shares(m) {
		t.Error("two lists of the full image share memory")
	}
}

// G3: the same of hex records.
func TestHexKeepsNothing(t *testing.T) {
	t.Parallel()
	r := rand.New(rand.NewSource(22))
	for n := range 400 {
		b := make([]byte, n, n+8)
		r.Read(b)
		kept := bytes.Clone(b[:cap(b)])
		s, _ := rom.ToHex(b)
		x, _ := rom.FromHex(s)
		y, _ := rom.FromHex(s)
		if !bytes.Equal(b[:cap(b)], kept) || shares(b, x, y) {
			t.Fatalf("%x: changed, or memory is shared", kept)
		}
		clear(b)
		if !bytes.Equal(x, kept[:n]) || s != hexed(kept[:n]) {
			t.Fatalf("%x: what was answered has changed", kept)
		}
	}
}

// G2: calls that go on at the same time know nothing of each other.
func TestAtTheSameTime(t *testing.T) {
	t.Parallel()
	var all sync.WaitGroup
	for i := range 8 {
		all.Go(func() {
			r := rand.New(rand.NewSource(int64(i)))
			for range 200 {
				m := anyImage(r)
				b, e := rom.Encode(m)
				s, g := rom.ToHex(b)
				back, f := rom.FromHex(s)
				again, h := rom.Decode(back)
				if e != api.OK || g != api.OK || f != (api.Fault{}) || h != (api.Fault{}) || !same(again, m) || rom.Sum(b) != rom.Sum(back) {
					t.Errorf("%+v: %d, %d, %v, %v", m, e, g, f, h)
					return
				}
				if _, f := rom.Decode(b[:len(b)-1]); f != at(api.ErrCut, len(b)-1) {
					t.Errorf("%+v cut: %v", m, f)
				}
			}
		})
	}
	all.Wait()
}

// G2: the same call gives the same answer, whatever was called in between.
func TestAgain(t *testing.T) {
	t.Parallel()
	first, e := rom.Encode(rich())
	_, _ = rom.Decode([]byte("JSQ"))
	_, _ = rom.FromHex(":")
	_, _ = rom.Encode(api.Image{})
	second, g := rom.Encode(rich())
	if e != g || !bytes.Equal(first, second) {
		t.Errorf("%x, %d, then %x, %d", first, e, second, g)
	}
}

// G1: lists and texts of a great length are refused soon.
func TestGreatLists(t *testing.T) {
	t.Parallel()
	const many = 1 << 20
	for i, m := range []api.Image{
		{Name: string(make([]byte, many))},
		{Name: "p", Tables: api.Tables{Groups: make([]api.Group, many)}},
		{Name: "p", Tables: api.Tables{Groups: groups(2), Conflicts: make([]api.Conflict, many)}, Slots: slots(1)},
		{Name: "p", Dets: make([]api.Det, many), Slots: slots(1)},
		{Name: "p", Vars: make([]int32, many), Slots: slots(1)},
		{Name: "p", Pool: make([]int32, many), Slots: slots(1)},
		{Name: "p", Slots: make([]api.Slot, many)},
		{Name: "p", Slots: slots(1), Code: ends(many)},
		{Name: "p", Slots: slots(1), Timers: -1 << 63, Counters: 1<<63 - 1, Depth: -1 << 63, Start: 1<<63 - 1},
		{Name: "p", Slots: []api.Slot{{Id: -1 << 63, Green: ^uint64(0), Enter: 1<<63 - 1, Tick: -1 << 63, Leave: 1<<63 - 1}}},
		{Name: "p", Slots: []api.Slot{{Id: 1<<63 - 1}, {Id: -1 << 63}}},
	} {
		if b, e := rom.Encode(m); rom.Formed(m) || e != api.ErrRom || len(b) != 0 {
			t.Error(fmt.Sprint(i, ": ", e))
		}
	}
}
