package bank_test

import (
	"bytes"
	"fmt"
	"maps"
	"math/rand"
	"strings"
	"testing"

	"junction/api"
	"junction/bank"
)

const maxGen = 4294967294

// plain is a state: what the slots hold, as texts, and which one is picked.
type plain struct {
	Held   map[int]string
	Picked int
}

func (p plain) equal(q plain) bool { return p.Picked == q.Picked && maps.Equal(p.Held, q.Held) }

// String tells long data by their lengths.
func (p plain) String() string {
	var b strings.Builder
	for slot := range 9 {
		if data, ok := p.Held[slot]; ok && len(data) > 12 {
			fmt.Fprintf(&b, "%d: %d bytes %X..; ", slot, len(data), data[:4])
		} else if ok {
			fmt.Fprintf(&b, "%d: %X; ", slot, data)
		}
	}
	return fmt.Sprint(b.String(), "picked ", p.Picked)
}

// stateOf is what a bank answers of its state; Get of a slot that Slots does not tell is ErrEmpty.
func stateOf(t *testing.T, b *bank.Bank) plain {
	t.Helper()
	p := plain{Held: map[int]string{}, Picked: b.Picked()}
	last := -1
	for _, slot := range b.Slots() {
		if slot <= last {
			t.Fatalf("P16.6: Slots: %v", b.Slots())
		}
		last = slot
		p.Held[slot] = ""
	}
	for slot := range 9 {
		data, e := b.Get(slot)
		_, ok := p.Held[slot]
		if ok && (e != api.OK || len(data) == 0) || !ok && (e != api.ErrEmpty || len(data) != 0) {
			t.Fatalf("P16.6: Get(%d): %d bytes, %d, Slots %v", slot, len(data), e, b.Slots())
		}
		if ok {
			p.Held[slot] = string(data)
		}
	}
	if _, ok := p.Held[p.Picked]; !ok && p.Picked != -1 {
		t.Fatalf("P16.6: Picked %d, Slots %v", p.Picked, b.Slots())
	}
	return p
}

// held is a state of slots and data by turns, none of them picked.
func held(list ...any) plain {
	p := plain{Held: map[int]string{}, Picked: -1}
	for i := 0; i < len(list); i += 2 {
		p.Held[list[i].(int)] = fmt.Sprint(list[i+1])
	}
	return p
}

// picked is the state with that slot picked.
func (p plain) picked(slot int) plain { return plain{p.Held, slot} }

// told is acts as words.
func told(acts []api.Act) string {
	var b strings.Builder
	for _, a := range acts {
		if len(a.Data) > 30 {
			fmt.Fprintf(&b, "%d@%d:%d bytes; ", a.Kind, a.Off, len(a.Data))
		} else {
			fmt.Fprintf(&b, "%d@%d:%X; ", a.Kind, a.Off, a.Data)
		}
	}
	return b.String()
}

func sameActs(a, b []api.Act) bool {
	if len(a) != len(b) {
		return false
	}
	for i := range a {
		if a[i].Kind != b[i].Kind || a[i].Off != b[i].Off || !bytes.Equal(a[i].Data, b[i].Data) {
			return false
		}
	}
	return true
}

// blank is a flash as it comes from the factory.
func blank(t *testing.T, sectors int) []byte {
	t.Helper()
	f, e := bank.Blank(sectors)
	if e != api.OK {
		t.Fatalf("Blank(%d): %d", sectors, e)
	}
	return f
}

// opened is a bank of a flash that can be opened.
func opened(t *testing.T, flash []byte) *bank.Bank {
	t.Helper()
	b, e := bank.Open(flash)
	if e != api.OK || b == nil {
		t.Fatalf("Open: %d", e)
	}
	return b
}

// played is a flash behind all of the acts.
func played(t *testing.T, flash []byte, acts []api.Act) []byte {
	t.Helper()
	return cut(t, flash, acts, bank.Steps(acts), 0)
}

// cut is a flash behind n steps of the acts, and some bits of the next one.
func cut(t *testing.T, flash []byte, acts []api.Act, n int, torn byte) []byte {
	t.Helper()
	f, e := bank.Play(flash, acts, n, torn)
	if e != api.OK {
		t.Fatalf("P16.14: Play: %d of %s", e, told(acts))
	}
	return f
}

// desk is a bank with the flash that its acts have been played on.
type desk struct {
	*bank.Bank
	flash []byte
}

func begun(t *testing.T, sectors int) *desk { return onto(t, blank(t, sectors)) }

func onto(t *testing.T, flash []byte) *desk {
	t.Helper()
	d := &desk{opened(t, flash), flash}
	d.settle(t)
	return d
}

// settle plays what has been done since, and answers it.
func (d *desk) settle(t *testing.T) []api.Act {
	t.Helper()
	acts := d.Acts()
	d.flash = played(t, d.flash, acts)
	return acts
}

// wants holds a call's answer and its acts against what they should be.
func (d *desk) wants(t *testing.T, what string, e, want api.Errno, acts string) {
	t.Helper()
	if got := told(d.settle(t)); e != want || got != acts {
		t.Errorf("%s: %d, acts %s, want %d, %s", what, e, got, want, acts)
	}
}

// full is data of so many bytes, all of them x.
func full(n int, x byte) []byte { return bytes.Repeat([]byte{x}, n) }

func pick[T any](r *rand.Rand, list ...T) T { return list[r.Intn(len(list))] }

// anyData are n bytes, of which 255 and 0 are not seldom.
func anyData(r *rand.Rand, n int) []byte {
	b := make([]byte, n)
	r.Read(b)
	if n > 0 && r.Intn(3) == 0 {
		copy(b[r.Intn(n):], full(r.Intn(n+1), pick[byte](r, 0, 255)))
	}
	return b
}

// call is one call that may change a bank.
type call struct {
	kind byte // P, D or K
	slot int
	data []byte
}

func (c call) on(b *bank.Bank) api.Errno {
	switch c.kind {
	case 'P':
		return b.Put(c.slot, c.data)
	case 'D':
		return b.Drop(c.slot)
	}
	return b.Pick(c.slot)
}

func (c call) String() string { return fmt.Sprintf("%c %d (%d bytes)", c.kind, c.slot, len(c.data)) }

// anyCall is one that is often just at an edge of what there is room for.
func anyCall(r *rand.Rand, v view) call {
	slot := r.Intn(9)
	if r.Intn(30) == 0 {
		slot = pick(r, -2, -1, 9, 10, 255, -1<<63, 1<<63-1)
	}
	switch kind := r.Intn(10); {
	case kind < 2:
		return call{'D', slot, nil}
	case kind < 4:
		return call{'K', pick(r, slot, slot, -1), nil}
	}
	room := v.half - v.end - 11
	left := v.half - v.size() - 11
	n := pick(r, 1, 2, r.Intn(40), r.Intn(40), r.Intn(400), r.Intn(400), r.Intn(v.half), room, room+1, room-11, room-12, left, left+1, left-11, left-10, left+len(v.Held[slot])+11, left+len(v.Held[slot])+12)
	return call{'P', slot, anyData(r, max(n, 0))}
}
