package bank_test

import (
	"bytes"
	"fmt"
	"math/rand"
	"testing"

	"junction/api"
	"junction/bank"
)

// checkActs holds acts against P16.14: the flash can do them, programs find 255 alone, no erase is in the active half.
func checkActs(t *testing.T, flash []byte, acts []api.Act) {
	t.Helper()
	flash = bytes.Clone(flash)
	for _, a := range acts {
		v := modelView(flash)
		switch a.Kind {
		case api.AcErase:
			if a.Off < 0 || a.Off%1024 != 0 || a.Off >= len(flash) || len(a.Data) != 0 {
				t.Fatalf("P16.14: %s", told([]api.Act{a}))
			}
			if a.Off/v.half == v.active {
				t.Fatalf("P16.14: an erase at %d, active is half %d", a.Off, v.active)
			}
			copy(flash[a.Off:], full(1024, 255))
		case api.AcProgram:
			if a.Off < 0 || a.Off > len(flash) || len(a.Data) > len(flash)-a.Off || len(a.Data) == 0 {
				t.Fatalf("P16.14: %s", told([]api.Act{a}))
			}
			if !bytes.Equal(flash[a.Off:a.Off+len(a.Data)], full(len(a.Data), 255)) {
				t.Fatalf("P16.14: a program at %d over what is not erased", a.Off)
			}
			copy(flash[a.Off:], a.Data)
		default:
			t.Fatalf("P16.14: kind %d", a.Kind)
		}
	}
}

// checkWhole holds a bank against P16.12: its flash, played whole, is opened with its state and no acts.
func checkWhole(t *testing.T, b *bank.Bank, flash []byte) {
	t.Helper()
	c := opened(t, flash)
	if acts := c.Acts(); len(acts) != 0 {
		t.Fatalf("P16.12: acts %s", told(acts))
	}
	if got, want := stateOf(t, c), stateOf(t, b); !got.equal(want) {
		t.Fatalf("P16.12: %v, want %v", got, want)
	}
}

// checkCut holds one cut against P16.13, and cuts the Open of what is left once more.
func checkCut(t *testing.T, what string, flash []byte, acts []api.Act, n int, torn byte, ahead, behind plain) {
	t.Helper()
	left := cut(t, flash, acts, n, torn)
	b, e := bank.Open(left)
	if e != api.OK {
		t.Fatalf("P16.13: %s, cut behind %d, torn %02X: Open: %d", what, n, torn, e)
	}
	got := stateOf(t, b)
	if !got.equal(behind) && (!got.equal(ahead) || n >= bank.Steps(acts)) {
		t.Fatalf("P16.13: %s, cut behind %d, torn %02X: %v, neither %v nor %v", what, n, torn, got, ahead, behind)
	}
	mends := b.Acts()
	if all := bank.Steps(mends); all > 0 {
		// At a place that goes through all of them as n does.
		left = cut(t, left, mends, (n*7+int(torn))%all, torn^byte(n))
		c, e := bank.Open(left)
		if e != api.OK || !stateOf(t, c).equal(got) {
			t.Fatalf("P16.13: %s, cut behind %d, torn %02X, and cut again: %d", what, n, torn, e)
		}
	}
}

// someBits are those of a torn step that are tried at each step; allTorn are all of them.
func someBits(n int) []byte {
	return []byte{0, 255, 1 << (n % 8), ^byte(1 << (n % 8)), byte(n * 37)}
}

func allTorn() []byte {
	var list []byte
	for x := range 256 {
		list = append(list, byte(x))
	}
	return list
}

// checkCuts cuts acts at every step, with all bits of few acts and with all of a header's.
func checkCuts(t *testing.T, what string, flash []byte, acts []api.Act, ahead, behind plain) {
	t.Helper()
	all := bank.Steps(acts)
	for n := 0; n <= all+1; n++ {
		bits := someBits(n)
		if all <= 60 || n >= all-17 {
			bits = allTorn()
		}
		for _, torn := range bits {
			checkCut(t, what, flash, acts, n, torn, ahead, behind)
		}
	}
}

// cutCall makes a call on a bank, and cuts its acts everywhere.
func cutCall(t *testing.T, d *desk, c call, moved bool) {
	t.Helper()
	d.settle(t)
	flash, ahead := d.flash, stateOf(t, d.Bank)
	if e := c.on(d.Bank); e != api.OK {
		t.Fatalf("%v: %d", c, e)
	}
	acts := d.settle(t)
	if (len(acts) > 1) != moved {
		t.Fatalf("%v: acts %s", c, told(acts))
	}
	checkActs(t, flash, acts)
	checkWhole(t, d.Bank, d.flash)
	checkCuts(t, c.String(), flash, acts, ahead, stateOf(t, d.Bank))
}

// P16.12 to P16.14, W6: every step of each kind of record is cut, with all bits.
func TestCutRecords(t *testing.T) {
	t.Parallel()
	d := begun(t, 4)
	for _, c := range []call{
		{'P', 3, []byte("abc")}, {'K', 3, nil}, {'P', 3, []byte{255, 255, 0}}, {'P', 0, []byte{255}}, {'P', 8, full(30, 255)}, {'K', 8, nil}, {'D', 3, nil}, {'K', -1, nil}, {'D', 8, nil}, {'D', 0, nil}, {'P', 1, full(40, 0)},
	} {
		cutCall(t, d, c, false)
	}
	cutCall(t, d, call{'P', 2, anyData(rand.New(rand.NewSource(3)), 300)}, false)
}

// P16.12 to P16.14, W6: every step of a move is cut, by each kind of call, into a half that is blank and into one that must be erased.
func TestCutMoves(t *testing.T) {
	t.Parallel()
	for _, sectors := range []int{4, 5} {
		d := begun(t, sectors)
		d.Put(0, full(700, 3))
		d.Put(5, full(20, 5))
		d.Put(1, full(500, 4))
		d.Pick(0)
		d.Put(1, full(600, 6))
		cutCall(t, d, call{'P', 0, full(800, 7)}, true) // into the blank second half
		d.Put(2, full(500, 1))
		cutCall(t, d, call{'P', 1, full(400, 8)}, true) // into the first one, which is erased
	}
	d := begun(t, 4)
	d.Put(0, full(90, 1))
	d.Put(1, full(1900, 2))
	d.Pick(0)
	cutCall(t, d, call{'K', 1, nil}, true)
	d.Put(0, full(10, 1))
	d.Put(0, full(69, 1)) // nine bytes are left
	cutCall(t, d, call{'K', -1, nil}, true)
	d.Put(0, full(103, 1))
	cutCall(t, d, call{'D', 1, nil}, true)
	if got := stateOf(t, d.Bank); !got.equal(held(0, string(full(103, 1)))) {
		t.Errorf("%v", got)
	}
}

// P16.13, P16.14, W6: every step of an Open's own acts is cut: of a blank flash, and of a log that a cut has left, into a half that is blank and into one that must be erased.
func TestCutOpens(t *testing.T) {
	t.Parallel()
	f := blank(t, 4)
	acts := opened(t, f).Acts()
	checkActs(t, f, acts)
	checkCuts(t, "Open of a blank flash", f, acts, held(), held())
	for _, torn := range allTorn() {
		for n := range 16 {
			f := cut(t, blank(t, 5), acts5(t), n, torn)
			acts := opened(t, f).Acts()
			checkActs(t, f, acts)
			checkCut(t, "Open of half a header", f, acts, int(torn)*3+n, byte(n*17), held(), held())
		}
	}
	d := begun(t, 4)
	d.Put(4, full(300, 4))
	d.Put(6, full(200, 6))
	d.Pick(4)
	for round := range 4 {
		d.settle(t)
		flash, state := d.flash, stateOf(t, d.Bank)
		d.Put(7, full(100, byte(round)))
		// The record's mark alone is missing.
		left := cut(t, flash, d.Acts(), 110, 1)
		acts := opened(t, left).Acts()
		if erases := acts[0].Kind == api.AcErase; erases != (round > 0) {
			t.Errorf("round %d: %s", round, told(acts))
		}
		checkActs(t, left, acts)
		checkCuts(t, fmt.Sprint("Open, round ", round), left, acts, state, state)
		d = onto(t, left)
		checkWhole(t, d.Bank, d.flash)
	}
}

// acts5 are those of the Open of a blank flash of five sectors.
func acts5(t *testing.T) []api.Act {
	t.Helper()
	return opened(t, blank(t, 5)).Acts()
}

// P16.13: generations whose bytes carry, up to the last move that there may be.
func TestCutGenerations(t *testing.T) {
	t.Parallel()
	for _, gen := range []uint32{1, 127, 128, 255, 256, 0xFFFF, 0x10000, 0xFFFFFF, 0x1000000, 0x7FFFFFFF, 0x80000000, 0xFEFFFFFF, maxGen - 2, maxGen - 1} {
		for _, f := range [][]byte{
			laid(4, half(4, gen, put(1, string(full(1500, 1))), put(2, "two"), choose(2)), half(4, gen-1, put(1, "old"))),
			laid(4, half(4, gen-1, put(1, "old")), half(4, gen, put(1, string(full(1500, 1))), put(2, "two"), choose(2))),
		} {
			d := onto(t, f)
			ahead := stateOf(t, d.Bank)
			if e := d.Put(1, full(600, 9)); e != api.OK {
				t.Fatalf("Put: %d", e)
			}
			acts := d.settle(t)
			all, behind := bank.Steps(acts), stateOf(t, d.Bank)
			checkActs(t, f, acts)
			checkWhole(t, d.Bank, d.flash)
			for n := all - 17; n <= all; n++ {
				for _, torn := range allTorn() {
					checkCut(t, fmt.Sprint("generation ", gen), f, acts, n, torn, ahead, behind)
				}
			}
			for n := 0; n < all; n += 11 {
				checkCut(t, fmt.Sprint("generation ", gen), f, acts, n, byte(n), ahead, behind)
			}
		}
	}
}

// life is a flash from Blank's on, with what is known of it.
type life struct {
	r     *rand.Rand
	flash []byte
	bank  *bank.Bank
	state plain          // what Open or the last call has left
	sure  map[int]string // what is acknowledged, and not touched since
	seen  map[string]int
}

// open opens the flash, with the power cut some times meanwhile.
func (l *life) open(t *testing.T, states ...plain) {
	t.Helper()
	for {
		b := opened(t, l.flash)
		got := stateOf(t, b)
		found := false
		for _, s := range states {
			found = found || got.equal(s)
		}
		if !found {
			t.Fatalf("P16.13: %v, want one of %v", got, states)
		}
		for slot, data := range l.sure {
			if got.Held[slot] != data {
				t.Fatalf("P16.15: slot %d: %v", slot, got)
			}
		}
		acts := b.Acts()
		checkActs(t, l.flash, acts)
		// From here on there is but one state that it may have.
		l.bank, l.state, states = b, got, []plain{got}
		if len(acts) > 0 {
			l.seen["mended"]++
		}
		if len(acts) == 0 || l.r.Intn(3) > 0 {
			l.flash = played(t, l.flash, acts)
			checkWhole(t, b, l.flash)
			return
		}
		l.seen["open cut"]++
		l.flash = cut(t, l.flash, acts, l.r.Intn(bank.Steps(acts)+1), byte(l.r.Intn(256)))
	}
}

// step makes one call, whole or cut.
func (l *life) step(t *testing.T) {
	t.Helper()
	c := anyCall(l.r, modelView(l.flash))
	ahead := l.state
	e := c.on(l.bank)
	acts, behind := l.bank.Acts(), stateOf(t, l.bank)
	checkActs(t, l.flash, acts)
	if e != api.OK && (len(acts) > 0 || !behind.equal(ahead)) {
		t.Fatalf("%v: %d, and %s, %v", c, e, told(acts), behind)
	}
	if len(acts) > 0 && c.kind != 'K' {
		delete(l.sure, c.slot)
	}
	if len(acts) > 0 && l.r.Intn(4) == 0 {
		all := bank.Steps(acts)
		n := pick(l.r, l.r.Intn(all+1), all-1, all-1-l.r.Intn(min(all, 20)))
		l.flash = cut(t, l.flash, acts, n, pick(l.r, byte(l.r.Intn(256)), 0x7F, 0xFE))
		l.seen[fmt.Sprintf("%c cut", c.kind)]++
		l.open(t, ahead, behind)
		return
	}
	if e == api.OK && c.kind == 'P' {
		l.sure[c.slot] = string(c.data)
	}
	if len(acts) > 1 {
		l.seen["moved"]++
	}
	l.flash, l.state = played(t, l.flash, acts), behind
	checkWhole(t, l.bank, l.flash)
	if l.r.Intn(10) == 0 {
		l.open(t, behind)
	}
}

// P16.12 to P16.15, W6: flashes from Blank's on, with calls, cuts and cuts of what mends them, at random.
func TestLives(t *testing.T) {
	t.Parallel()
	seen := map[string]int{}
	for seed := range int64(60) {
		r := rand.New(rand.NewSource(seed))
		l := &life{r: r, flash: blank(t, 4+r.Intn(4)), sure: map[int]string{}, seen: seen}
		l.open(t, held())
		for range 150 {
			l.step(t)
		}
	}
	for _, what := range []string{"mended", "open cut", "moved", "P cut", "D cut", "K cut"} {
		if seen[what] < 100 {
			t.Errorf("%s: %v", what, seen)
		}
	}
}

// P16.15: what is acknowledged is there behind a great many other calls, and cuts of all of them.
func TestStays(t *testing.T) {
	t.Parallel()
	d := begun(t, 6)
	kept := anyData(rand.New(rand.NewSource(5)), 700)
	d.Put(8, kept)
	d.settle(t)
	for i := range 2000 {
		if e := d.Put(i%8, full(1+i%90, byte(i))); e != api.OK {
			t.Fatalf("Put: %d", e)
		}
		acts := d.Acts()
		flash := cut(t, d.flash, acts, i*13%(bank.Steps(acts)+1), byte(i))
		d = onto(t, flash)
		if got, e := d.Get(8); e != api.OK || !bytes.Equal(got, kept) {
			t.Fatalf("P16.15: round %d: %d bytes, %d", i, len(got), e)
		}
	}
}

// W6, P16.13: a flash of the greatest size, cut at some steps of a move of great data.
func TestCutGreat(t *testing.T) {
	t.Parallel()
	r := rand.New(rand.NewSource(9))
	d := begun(t, 4096)
	d.Put(1, anyData(r, 1<<20))
	d.Put(2, anyData(r, 500000))
	d.Pick(1)
	d.Put(2, anyData(r, 400000))
	d.settle(t)
	flash, ahead := d.flash, stateOf(t, d.Bank)
	if e := d.Put(3, anyData(r, 300000)); e != api.OK {
		t.Fatalf("Put: %d", e)
	}
	acts := d.settle(t)
	checkActs(t, flash, acts)
	checkWhole(t, d.Bank, d.flash)
	all, behind := bank.Steps(acts), stateOf(t, d.Bank)
	if len(acts) != 5 {
		t.Fatalf("acts %s", told(acts))
	}
	for _, n := range []int{0, 1, 1<<20 + 10, 1<<20 + 11, r.Intn(all), all - 16, all - 1, all} {
		checkCut(t, "great", flash, acts, n, byte(r.Intn(255)), ahead, behind)
	}
}
