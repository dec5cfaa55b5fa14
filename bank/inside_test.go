package bank

import (
	"errors"
	"testing"

	"junction/api"
)

// Chapter 16's Ways: each refusal is a sentinel of its own, and is found by errors.Is however often it is wrapped.
func TestNumber(t *testing.T) {
	list := []struct {
		why  error
		want api.Errno
	}{
		{errDisk, api.ErrDisk}, {errSlot, api.ErrSlot}, {errEmpty, api.ErrEmpty}, {errSpace, api.ErrSpace},
		{errData, api.ErrData}, {errInUse, api.ErrInUse}, {errAct, api.ErrAct}, {errWorn, api.ErrWorn},
	}
	for i, c := range list {
		once := about("slot", 3, c.why)
		for _, err := range []error{c.why, once, about("byte", 5, once)} {
			if got := number(err); got != c.want {
				t.Errorf("%v: %d, want %d", err, got, c.want)
			}
			for j, other := range list {
				if errors.Is(err, other.why) != (i == j) {
					t.Errorf("%v is %v", err, other.why)
				}
			}
		}
	}
	if err := about("slot", 3, nil); err != nil || number(err) != api.OK {
		t.Errorf("%v", err)
	}
	if got := about("slot", 3, about("byte", -5, errWorn)).Error(); got != "slot 3: byte -5: the generations have run out" {
		t.Errorf("%q", got)
	}
}

// Chapter 16's Ways: what is wrapped on its way up tells the act, or the place of the log's end.
func TestAbout(t *testing.T) {
	flash, _ := Blank(4)
	good := api.Act{Kind: api.AcProgram}
	var told refusal
	if err := allFit([]api.Act{good, good, {}, {}}, len(flash)); !errors.As(err, &told) || told != (refusal{"act", 2, errAct}) {
		t.Errorf("%v", err)
	}
	copy(flash[2048:], header(maxGen, 2048))
	flash[2048+20] = 0
	if b, err := open(flash); b != nil || !errors.As(err, &told) || told != (refusal{"byte", 2048 + 16, errWorn}) {
		t.Errorf("%v", err)
	}
}

// Chapter 16's Ways: nothing that is appended to a part can grow into the one behind it.
func TestPartsDoNotGrow(t *testing.T) {
	flash, _ := Blank(5)
	b, _ := open(flash)
	b.Put(1, []byte("one"))
	b.Put(2, []byte("two"))
	r, ok := recordAt(b.half(0), headerSize)
	if !ok || string(r.data) != "one" || cap(r.data) != 3 {
		t.Fatalf("%+v, %v", r, ok)
	}
	_ = append(r.data, 1, 2, 3)
	_ = append(b.half(0), 7)
	for _, list := range b.state.held {
		if cap(list) != len(list) {
			t.Errorf("%q has room for %d", list, cap(list))
		}
		_ = append(list, 9)
	}
	if two, _ := b.Get(2); string(two) != "two" || b.flash[2048] != erased || cap(b.half(1)) != 2048 {
		t.Errorf("%q", two)
	}
	if _, ok := recordAt(b.half(0), headerSize); !ok {
		t.Errorf("the record is not whole any more")
	}
}
