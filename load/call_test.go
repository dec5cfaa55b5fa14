package load_test

import (
	"bytes"
	"math/rand"
	"reflect"
	"slices"
	"sync"
	"testing"

	"junction/api"
	"junction/load"
	"junction/rom"
)

// anyOf is an image in which something may be wrong.
func anyOf(r *rand.Rand) api.Image {
	m := anyWild(r)
	if r.Intn(2) == 0 {
		m = twisted(r, m)
	}
	return m
}

// P12.4, G3: an image that is handed in is not changed, and heights are new memory.
func TestNothingIsChanged(t *testing.T) {
	t.Parallel()
	r := rand.New(rand.NewSource(20))
	for range 500 {
		m := copied(anyOf(r))
		kept := copied(m)
		load.Verify(m)
		entry := m.Slots[0].Tick
		list, _ := load.Heights(m, entry)
		again, _ := load.Heights(m, entry)
		if !reflect.DeepEqual(m, kept) {
			t.Fatalf("%s has become %s", told(kept), told(m))
		}
		if shares(m, list, again) {
			t.Fatalf("%s: Heights shares memory", told(m))
		}
		first := slices.Clone(list)
		ruin(m)
		ruin(again)
		if !slices.Equal(list, first) {
			t.Fatalf("%s: Heights keeps what it was given", told(kept))
		}
	}
}

// P12.4, G3: bytes that are handed in are not changed, and the image is new memory throughout.
func TestLoadKeepsNothing(t *testing.T) {
	t.Parallel()
	r := rand.New(rand.NewSource(21))
	for range 300 {
		want := anyWild(r)
		b := encoded(t, want)
		kept := bytes.Clone(b)
		m, f := load.Load(b)
		again, _ := load.Load(b)
		if f != (api.Fault{}) || !bytes.Equal(b, kept) {
			t.Fatalf("Load(%x): %v, %x", kept, f, b)
		}
		if shares(b, m, again) {
			t.Fatalf("what Load answers of %x shares memory", b)
		}
		clear(b)
		ruin(again)
		if !same(m, want) {
			t.Fatalf("Load(%x) keeps what it was given", kept)
		}
	}
}

// G4: nil and empty lists count as the same.
func TestNilAndEmpty(t *testing.T) {
	t.Parallel()
	m := api.Image{Name: "p", Slots: []api.Slot{{Tick: 1, Leave: 2}}, Code: make([]api.Instr, 3)}
	for i := range m.Code {
		m.Code[i].Op = api.InEnd
	}
	n := m
	n.Dets, n.Vars, n.Pool, n.Tables = []api.Det{}, []int32{}, []int32{}, api.Tables{Groups: []api.Group{}, Conflicts: []api.Conflict{}}
	if f, g := load.Verify(m), load.Verify(n); f != (api.Fault{}) || g != f {
		t.Errorf("%v, %v", f, g)
	}
	m.Code, n.Code = nil, []api.Instr{}
	if f, g := load.Verify(m), load.Verify(n); f != at(api.ErrSection, 0) || g != f {
		t.Errorf("without code: %v, %v", f, g)
	}
	m.Slots, n.Slots = nil, []api.Slot{}
	if f, g := load.Verify(m), load.Verify(n); f != at(api.ErrRom, 0) || g != f {
		t.Errorf("without slots: %v, %v", f, g)
	}
}

// G2: the same call gives the same answer, whatever was called in between; calls at the same time know nothing of each other.
func TestAtTheSameTime(t *testing.T) {
	t.Parallel()
	var all sync.WaitGroup
	shared := generated(t, resolved(t, smallPlan))
	for i := range 8 {
		all.Go(func() {
			r := rand.New(rand.NewSource(int64(i)))
			for range 200 {
				m := anyOf(r)
				want := model(m)
				entry := m.Slots[0].Leave
				list, g := load.Heights(m, entry)
				if f := load.Verify(m); f != want || g != want || f == (api.Fault{}) && !slices.Equal(list, modelHeights(m, entry)) {
					t.Errorf("%s: %v, %v, %v, want %v", told(m), f, list, g, want)
					return
				}
				b, _ := rom.Encode(shared)
				if read, f := load.Load(b); f != (api.Fault{}) || !same(read, shared) || load.Verify(shared) != f {
					t.Errorf("%v of what all of them look at", f)
					return
				}
			}
		})
	}
	all.Wait()
}

// G1: whatever is given, each call ends and none panics; with a fault all else is zero.
func TestGarbage(t *testing.T) {
	t.Parallel()
	r := rand.New(rand.NewSource(22))
	for range 4000 {
		m := anyWild(r)
		for range 1 + r.Intn(4) {
			m = spoilt(r, m)
		}
		f := load.Verify(m)
		if want := model(m); f != want {
			t.Fatalf("%+v: %v, want %v", m, f, want)
		}
		entry := pick(r, 0, 1, 5, -1, 1<<63-1, -1<<63)
		list, g := load.Heights(m, entry)
		if f != (api.Fault{}) && g != f || g != (api.Fault{}) && len(list) != 0 {
			t.Fatalf("%+v: Heights(%d) = %v, %v, but %v", m, entry, list, g, f)
		}
	}
	for range 2000 {
		b := make([]byte, r.Intn(200))
		r.Read(b)
		copy(b, pick(r, "", "JSP", "JSP\x1a", "JSP\x1a\x01\x00"))
		_, want := rom.Decode(b)
		if m, f := load.Load(b); f != want || !same(m, api.Image{}) {
			t.Fatalf("Load(%x): %+v, %v, want %v", b, m, f, want)
		}
	}
}

// G1: great lists are refused soon.
func TestGreatLists(t *testing.T) {
	t.Parallel()
	const many = 1 << 20
	one := []api.Slot{{Tick: 1, Leave: 2}}
	for i, m := range []api.Image{
		{Name: string(make([]byte, many)), Slots: one},
		{Name: "p", Slots: one, Code: make([]api.Instr, many)},
		{Name: "p", Slots: one, Pool: make([]int32, many)},
		{Name: "p", Slots: make([]api.Slot, many)},
		{Name: "p", Slots: one, Tables: api.Tables{Groups: make([]api.Group, many)}},
		{Name: "p", Slots: []api.Slot{{Enter: 1<<63 - 1, Tick: -1 << 63, Leave: 1<<63 - 1}}},
		{Name: "p", Slots: one, Depth: 1<<63 - 1, Timers: -1 << 63},
	} {
		if f := load.Verify(m); f != at(api.ErrRom, 0) {
			t.Errorf("%d: %v", i, f)
		}
		if list, f := load.Heights(m, 0); f != at(api.ErrRom, 0) || len(list) != 0 {
			t.Errorf("%d: Heights: %d of them, %v", i, len(list), f)
		}
	}
	if m, f := load.Load(make([]byte, many)); f != at(api.ErrMagic, 0) || !same(m, api.Image{}) {
		t.Errorf("Load: %v", f)
	}
}
