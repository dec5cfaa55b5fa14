package bank_test

import (
	"bytes"
	"math"
	"math/rand"
	"reflect"
	"runtime"
	"slices"
	"sync"
	"testing"
	"time"

	"junction/api"
	"junction/bank"
)

// given is what calls are made with.
type given struct {
	Sectors int
	Flash   []byte
	Acts    []api.Act
	N       int
	Torn    byte
	Calls   []api.Act // Kind: which call; Off: its slot
}

// answer is all that the calls answer.
type answer struct {
	Blank, Played []byte
	Steps         int
	Errnos        []api.Errno
	Got           [][]byte
	Slots         [][]int
	Picked        []int
	Acts          [][]api.Act
}

// calls makes all of them.
func calls(g given) answer {
	var a answer
	var e, f, h api.Errno
	a.Blank, e = bank.Blank(g.Sectors)
	a.Played, f = bank.Play(g.Flash, g.Acts, g.N, g.Torn)
	a.Steps = bank.Steps(g.Acts)
	b, h := bank.Open(g.Flash)
	a.Errnos = append(a.Errnos, e, f, h)
	if b == nil {
		b = &bank.Bank{}
	}
	for _, c := range g.Calls {
		switch c.Kind {
		case 0:
			e = b.Put(c.Off, c.Data)
		case 1:
			e = b.Drop(c.Off)
		case 2:
			e = b.Pick(c.Off)
		case 3:
			var data []byte
			data, e = b.Get(c.Off)
			a.Got = append(a.Got, data)
		case 4:
			a.Acts = append(a.Acts, b.Acts())
		}
		a.Errnos = append(a.Errnos, e)
		a.Slots = append(a.Slots, b.Slots())
		a.Picked = append(a.Picked, b.Picked())
	}
	a.Acts = append(a.Acts, b.Acts())
	return a
}

// wild is any number, small ones mostly.
func wild(r *rand.Rand) int {
	return pick(r, -2, -1, 0, 1, 2, 3, 4, 5, 8, 9, 10, 255, 1023, 1024, 2048, 4096, 4097, math.MinInt, math.MaxInt, math.MinInt32, math.MaxInt32)
}

// wildThings are right, or wrong in some things.
func wildThings(r *rand.Rand) given {
	g := given{Sectors: pick(r, 3, 4, 5, 4096, 4097, wild(r)), Flash: anyFlash(r), N: pick(r, wild(r), r.Intn(3000)), Torn: byte(r.Intn(256))}
	g.Acts = anyActs(r, len(g.Flash)/1024)
	switch r.Intn(8) {
	case 0:
		g.Flash = anyData(r, pick(r, 0, 1, 1024, 4095, 4097, 5000))
	case 1:
		g.Flash = anyData(r, 4096)
	case 2:
		g.Acts = append(g.Acts, api.Act{Kind: wild(r), Off: wild(r), Data: anyData(r, r.Intn(5))})
	}
	for range r.Intn(40) {
		g.Calls = append(g.Calls, api.Act{Kind: r.Intn(5), Off: pick(r, wild(r), r.Intn(9), r.Intn(9)), Data: anyData(r, pick(r, 0, 1, r.Intn(50), r.Intn(900), r.Intn(3000)))})
	}
	return g
}

// P16.11, G1 to G3, G5: whatever is given, no call panics, keeps or changes anything; a refusal has nothing beside it; the same is answered of the same.
func TestGarbage(t *testing.T) {
	t.Parallel()
	seen := map[api.Errno]int{}
	for seed := range int64(3000) {
		// Of one seed come the same things, in new memory.
		g, h := wildThings(rand.New(rand.NewSource(seed))), wildThings(rand.New(rand.NewSource(seed)))
		first := calls(g)
		if !reflect.DeepEqual(g, h) {
			t.Fatalf("P16.11: seed %d: changed", seed)
		}
		if again := calls(h); !reflect.DeepEqual(first, again) {
			t.Fatalf("seed %d: another answer", seed)
		}
		for i, empty := range []bool{len(first.Blank) == 0, len(first.Played) == 0} {
			if (first.Errnos[i] != api.OK) != empty {
				t.Fatalf("seed %d: %d, %v", seed, first.Errnos[i], empty)
			}
		}
		for _, e := range first.Errnos {
			if e != api.OK && (e < api.ErrDisk || e > api.ErrWorn) {
				t.Fatalf("G5: seed %d: %d", seed, e)
			}
			seen[e]++
		}
	}
	for e := api.ErrDisk; e <= api.ErrWorn; e++ {
		if seen[e] < 20 {
			t.Errorf("%v", seen)
		}
	}
}

// piece is the memory of a list, its spare room too.
type piece struct{ from, to uintptr }

func pieceOf[T any](list []T) piece {
	if cap(list) == 0 {
		return piece{}
	}
	v := reflect.ValueOf(list)
	return piece{v.Pointer(), v.Pointer() + uintptr(cap(list))*v.Type().Elem().Size()}
}

func piecesOf(acts []api.Act) []piece {
	list := []piece{pieceOf(acts)}
	for _, a := range acts {
		list = append(list, pieceOf(a.Data))
	}
	return list
}

// share tells whether two of the pieces have memory in common.
func share(list ...piece) bool {
	for i, p := range list {
		for _, q := range list[:i] {
			if p.from < q.to && q.from < p.to {
				return true
			}
		}
	}
	return false
}

// ruin writes over bytes and over their spare room.
func ruin(b []byte) {
	b = b[:cap(b)]
	for i := range b {
		b[i] ^= 0x5A
	}
}

// P16.11, G3: answers are new memory, of which nothing is seen in the bank or in any other answer, written over and grown; what is handed in is not kept.
func TestNewMemory(t *testing.T) {
	flash := laid(4, half(4, 5, put(1, "one"), put(2, "two"), choose(2)), []byte{1, 2, 3})
	handed := slices.Clone(flash)
	b := opened(t, handed)
	ruin(handed)
	want := held(1, "one", 2, "two").picked(2)
	check := func(what string) {
		t.Helper()
		if got := stateOf(t, b); !got.equal(want) {
			t.Fatalf("P16.11: %s: %v, want %v", what, got, want)
		}
	}
	check("Open")
	data := []byte("three")
	b.Put(3, data)
	ruin(data)
	want.Held[3] = "three"
	check("Put")
	one, _ := b.Get(1)
	again, _ := b.Get(1)
	three, _ := b.Get(3)
	slots, others := b.Slots(), b.Slots()
	acts := b.Acts()
	all := append(piecesOf(acts), pieceOf(one), pieceOf(again), pieceOf(three), pieceOf(slots), pieceOf(others), pieceOf(data), pieceOf(handed))
	if share(all...) {
		t.Fatalf("P16.11: answers share memory")
	}
	ruin(one)
	_ = append(three, full(2000, 'x')...)
	ruin(three)
	slots = slots[:cap(slots)]
	for i := range slots {
		slots[i] = -7
	}
	if string(again) != "one" || !slices.Equal(others, []int{1, 2, 3}) {
		t.Errorf("P16.11: %q, %v", again, others)
	}
	check("Get and Slots")
	flash = played(t, flash, acts)
	for i := range acts {
		ruin(acts[i].Data)
		acts[i] = api.Act{Kind: 9, Off: 9}
	}
	check("Acts")
	// The bank's own flash is as it was: a move of it writes what was put.
	large := full(1900, 4)
	for _, slot := range []int{4, 4} {
		if e := b.Put(slot, large); e != api.OK {
			t.Fatalf("Put: %d", e)
		}
		acts := b.Acts()
		flash = played(t, flash, acts)
		for i := range acts {
			ruin(acts[i].Data)
		}
		_ = append(acts[:0], make([]api.Act, len(acts))...)
	}
	want.Held[4] = string(large)
	ruin(large)
	check("a move")
	checkState(t, "played", flash, want)
}

// P16.11, G3: Blank and Play.
func TestPlayNewMemory(t *testing.T) {
	flash, acts := anyData(rand.New(rand.NewSource(2)), 4096), []api.Act{program(0, []byte{1, 2, 3}), {Kind: 1, Off: 1024}}
	kept := slices.Clone(flash)
	first, second := played(t, flash, acts), played(t, flash, acts)
	none, _ := bank.Play(flash, nil, 5, 255)
	blankOne, blankTwo := blank(t, 4), blank(t, 4)
	if share(append(piecesOf(acts), pieceOf(flash), pieceOf(first), pieceOf(second), pieceOf(none), pieceOf(blankOne), pieceOf(blankTwo))...) {
		t.Fatalf("P16.11: answers share memory")
	}
	if !bytes.Equal(flash, kept) || told(acts) != "2@0:010203; 1@1024:; " || !bytes.Equal(none, flash) {
		t.Errorf("P16.11: changed: %s", told(acts))
	}
	ruin(first)
	ruin(none)
	ruin(blankOne)
	if want, _ := modelPlay(kept, acts, 5000, 0); !bytes.Equal(second, want) || !bytes.Equal(flash, kept) || !bytes.Equal(blankTwo, full(4096, 255)) {
		t.Errorf("P16.11: an answer is seen in another one")
	}
}

// G2: a bank knows nothing of another one of the same flash.
func TestTwoBanks(t *testing.T) {
	f := laid(4, half(4, 1, put(1, "one")), nil)
	a, b := opened(t, f), opened(t, f)
	a.Put(1, []byte("other"))
	a.Pick(1)
	if got := stateOf(t, b); !got.equal(held(1, "one")) || len(b.Acts()) != 0 || len(a.Acts()) != 2 {
		t.Errorf("G2: %v", got)
	}
	b.Drop(1)
	if got := stateOf(t, a); !got.equal(held(1, "other").picked(1)) {
		t.Errorf("G2: %v", got)
	}
}

// G4: nil and empty lists count as the same.
func TestNilAndEmpty(t *testing.T) {
	f := blank(t, 4)
	for _, acts := range [][]api.Act{nil, {}, {{Kind: 1}}, {{Kind: 1, Data: []byte{}}}, {{Kind: 2, Off: 7}}, {{Kind: 2, Off: 7, Data: []byte{}}}} {
		if g, e := bank.Play(f, acts, 0, 0); e != api.OK || !bytes.Equal(g, f) {
			t.Errorf("G4: Play of %s: %d", told(acts), e)
		}
	}
	for _, none := range [][]byte{nil, {}} {
		if b, e := bank.Open(none); b != nil || e != api.ErrDisk {
			t.Errorf("G4: Open: %d", e)
		}
		if e := opened(t, f).Put(0, none); e != api.ErrData {
			t.Errorf("G4: Put: %d", e)
		}
	}
}

// G2: what is answered does not hang on other calls that are made at the same time, with the same flash too.
func TestAtTheSameTime(t *testing.T) {
	t.Parallel()
	var wait sync.WaitGroup
	for i := range int64(8) {
		g := wildThings(rand.New(rand.NewSource(i)))
		want := calls(g)
		for range 4 {
			wait.Go(func() {
				for range 20 {
					if got := calls(g); !reflect.DeepEqual(got, want) {
						t.Errorf("G2: seed %d: another answer", i)
					}
				}
			})
		}
	}
	wait.Wait()
}

// heap is the memory that is in use.
func heap() uint64 {
	var m runtime.MemStats
	runtime.GC()
	runtime.ReadMemStats(&m)
	return m.HeapAlloc
}

// What is kept is the flash, and the acts until they are asked for. It is not parallel: it looks at memory.
func TestKeepsLittle(t *testing.T) {
	b := opened(t, blank(t, 400))
	ahead := heap()
	for i := range 20000 {
		if e := b.Put(i%9, full(5000, byte(i))); e != api.OK {
			t.Fatalf("Put: %d", e)
		}
		b.Acts()
	}
	if more := int64(heap() - ahead); more > 1<<19 {
		t.Errorf("%d bytes more are kept", more)
	}
	runtime.KeepAlive(b)
}

// G1: the greatest flash, full of the smallest records; acts without an end.
func TestLarge(t *testing.T) {
	t.Parallel()
	began := time.Now()
	many := bytes.Repeat(slices.Concat(put(1, "x"), choose(1), put(2, "y"), drop(2)), 45000)
	b := checkOpen(t, "many records", laid(4096, half(4096, 1, many), full(2<<20, 0)))
	if got := stateOf(t, b); !got.equal(held(1, "x").picked(1)) {
		t.Errorf("%v", got)
	}
	f := laid(4096, half(4096, 1, many, []byte{0}), full(2<<20, 0))
	b = checkOpen(t, "many records and a byte", f)
	for range 200000 {
		if e := b.Put(3, []byte("z")); e != api.OK {
			t.Fatalf("Put: %d", e)
		}
	}
	acts := b.Acts()
	if bank.Steps(acts) < 200000*12 {
		t.Errorf("%d steps", bank.Steps(acts))
	}
	f = played(t, blank(t, 4096), emptyPrograms(1000000))
	if !bytes.Equal(f, blank(t, 4096)) {
		t.Errorf("a million acts without steps change the flash")
	}
	if g, e := bank.Play(f, slices.Repeat([]api.Act{{Kind: 1, Off: 4095 * 1024}}, 100000), math.MaxInt, 0); e != api.OK || !bytes.Equal(f, g) {
		t.Errorf("a hundred thousand erases: %d", e)
	}
	if took := time.Since(began); took > 30*time.Second {
		t.Errorf("it took %v", took)
	}
}

// emptyPrograms are n programs without data.
func emptyPrograms(n int) []api.Act {
	return slices.Repeat([]api.Act{{Kind: api.AcProgram, Off: 9}}, n)
}
