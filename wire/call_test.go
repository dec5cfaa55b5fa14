package wire_test

import (
	"bytes"
	"math"
	"math/rand"
	"reflect"
	"runtime"
	"slices"
	"sync"
	"testing"
	"time"

	"junction/api"
	"junction/wire"
)

// given is what calls are made with.
type given struct {
	Bytes []byte
	Frame api.Frame
	Msg   api.Msg
	Calls []call
}

// call is a call of an end: which one, and its argument.
type call struct {
	Which int
	Bytes []byte
}

// answer is all that the calls answer.
type answer struct {
	Sum     uint16
	Bytes   [4][]byte // of Stuff, Unstuff, Frame, Pack
	Frame   api.Frame
	Msg     api.Msg
	Errnos  []api.Errno // of Unstuff, Frame, Unframe, Pack, Unpack; then of Send
	Polled  [][]byte
	Taken   [][][]byte
	Numbers [][2]int
}

// calls makes all of them.
func calls(g given) answer {
	var a answer
	var e [5]api.Errno
	a.Sum, a.Bytes[0] = wire.Sum16(g.Bytes), wire.Stuff(g.Bytes)
	a.Bytes[1], e[0] = wire.Unstuff(g.Bytes)
	a.Bytes[2], e[1] = wire.Frame(g.Frame)
	a.Frame, e[2] = wire.Unframe(g.Bytes)
	a.Bytes[3], e[3] = wire.Pack(g.Msg)
	a.Msg, e[4] = wire.Unpack(g.Bytes)
	a.Errnos = e[:]
	end := wire.NewEnd()
	for _, c := range g.Calls {
		switch c.Which {
		case 0:
			a.Errnos = append(a.Errnos, end.Send(c.Bytes))
		case 1:
			end.Timeout()
		case 2:
			a.Polled = append(a.Polled, end.Poll())
		case 3:
			a.Taken = append(a.Taken, end.Take())
		default:
			end.Feed(c.Bytes)
		}
		a.Numbers = append(a.Numbers, [2]int{end.Waiting(), end.Dropped()})
	}
	return a
}

// wild is any number, small ones mostly.
func wild(r *rand.Rand) int {
	return pick(r, -1, 0, 0, 1, 1, 2, 3, 7, 8, 10, 255, 256, math.MinInt, math.MaxInt, math.MinInt32, math.MaxInt32, 1<<32+1)
}

// wildThings are right, or wrong in some things.
func wildThings(r *rand.Rand) given {
	g := given{Bytes: anyData(r, pick(r, 0, 1, 3, 10, r.Intn(20), r.Intn(600))), Frame: anyFrame(r), Msg: anyMsg(r)}
	switch r.Intn(6) {
	case 0:
		g.Bytes = cut(append([]byte{byte(2 * r.Intn(8))}, anyData(r, r.Intn(257))...)...)
	case 1:
		g.Bytes, _ = modelPack(g.Msg)
	case 2:
		g.Frame = api.Frame{Kind: wild(r), Ns: wild(r), Nr: wild(r), Data: anyData(r, pick(r, 0, 0, 1, 256, 257))}
	case 3:
		g.Msg = api.Msg{Kind: wild(r), Slot: wild(r), Num: uint32(wild(r)), Sum: uint32(wild(r)), Data: anyData(r, pick(r, 0, 1, 246, 247))}
	}
	for range r.Intn(60) {
		c := call{Which: r.Intn(8), Bytes: anyData(r, pick(r, 0, 1, 3, r.Intn(20), r.Intn(600)))}
		if c.Which > 5 {
			c.Bytes, _ = modelFrame(anyFrame(r))
		}
		g.Calls = append(g.Calls, c)
	}
	return g
}

// G1 to G3, G5: whatever is given, no call panics, keeps or changes anything; a refusal has nothing beside it; the same is answered of the same.
func TestGarbage(t *testing.T) {
	t.Parallel()
	seen := map[api.Errno]int{}
	for seed := range int64(6000) {
		// Of one seed come the same things, in new memory.
		g, h := wildThings(rand.New(rand.NewSource(seed))), wildThings(rand.New(rand.NewSource(seed)))
		first := calls(g)
		if !reflect.DeepEqual(g, h) {
			t.Fatalf("seed %d: changed", seed)
		}
		if again := calls(h); !reflect.DeepEqual(first, again) {
			t.Fatalf("seed %d: another answer", seed)
		}
		for i, empty := range []bool{len(first.Bytes[1]) == 0, len(first.Bytes[2]) == 0, sameFrame(first.Frame, api.Frame{}), len(first.Bytes[3]) == 0, sameMsg(first.Msg, api.Msg{})} {
			if first.Errnos[i] != api.OK && !empty {
				t.Fatalf("G5: seed %d: %d, and something beside it", seed, first.Errnos[i])
			}
		}
		for _, e := range first.Errnos {
			if e != api.OK && (e < api.ErrFrame || e > api.ErrQueue) {
				t.Fatalf("G5: seed %d: %d", seed, e)
			}
			seen[e]++
		}
	}
	for _, e := range []api.Errno{api.OK, api.ErrFrame, api.ErrSum16, api.ErrStuff, api.ErrMsg} {
		if seen[e] < 100 {
			t.Errorf("%v", seen)
		}
	}
}

// G1: an End that NewEnd did not make is one that has sent and got nothing.
func TestZeroEnd(t *testing.T) {
	for _, e := range []*wire.End{{}, new(wire.End)} {
		counts(t, e, "G1", 0, 0)
		takes(t, e, "G1")
		polls(t, e, "G1")
		e.Timeout()
		e.Feed(nil)
		e.Feed([]byte{1, 2, 3})
		e.Feed(dataFrame(0, 0, 'a'))
		takes(t, e, "G1", "a")
		polls(t, e, "G1", readyFrame(1))
		send(t, e, []byte("x"))
		polls(t, e, "G1", dataFrame(0, 1, 'x'))
		counts(t, e, "G1", 1, 0)
	}
}

// piece is the memory of a list, its spare room too.
type piece struct{ from, to uintptr }

func pieceOf[T any](list []T) piece {
	if cap(list) == 0 {
		return piece{}
	}
	v := reflect.ValueOf(list)
	return piece{v.Pointer(), v.Pointer() + uintptr(cap(list))*v.Type().Elem().Size()}
}

// piecesOf are those of a list and of the lists in it.
func piecesOf(list [][]byte) []piece {
	all := []piece{pieceOf(list)}
	for _, b := range list {
		all = append(all, pieceOf(b))
	}
	return all
}

// share tells whether two of the pieces have memory in common.
func share(list ...piece) bool {
	for i, p := range list {
		for _, q := range list[:i] {
			if p.from < q.to && q.from < p.to {
				return true
			}
		}
	}
	return false
}

// ruin writes over bytes and over their spare room.
func ruin(b []byte) {
	b = b[:cap(b)]
	for i := range b {
		b[i] ^= 0x5A
	}
}

// roomy is a copy with spare room behind it, in which a call must not write.
func roomy(b []byte) []byte { return append(make([]byte, 0, len(b)+50), b...) }

// G3: what is answered is new memory; an argument stays as it is, its spare room too.
func TestNewMemory(t *testing.T) {
	for _, text := range []string{"", "abc", "\x7e\x7d", "\x00", string(full(200, 'x'))} {
		for range 2 {
			arg, kept := roomy([]byte(text)), roomy([]byte(text))
			stuffed, stuffedToo := wire.Stuff(arg), wire.Stuff(arg)
			in := roomy(stuffed)
			plain, plainToo, _ := two(wire.Unstuff, in)
			framed, framedToo, _ := two(wire.Frame, api.Frame{Data: arg})
			between := roomy(framed[1 : len(framed)-1])
			f, g, _ := two(wire.Unframe, between)
			packed, packedToo, _ := two(wire.Pack, api.Msg{Kind: api.MsPiece, Data: arg})
			message := roomy(packed)
			m, n, _ := two(wire.Unpack, message)
			if share(pieceOf(arg), pieceOf(stuffed), pieceOf(stuffedToo), pieceOf(in), pieceOf(plain), pieceOf(plainToo), pieceOf(framed), pieceOf(framedToo), pieceOf(between), pieceOf(f.Data), pieceOf(g.Data), pieceOf(packed), pieceOf(packedToo), pieceOf(message), pieceOf(m.Data), pieceOf(n.Data)) {
				t.Fatalf("G3: answers share memory")
			}
			if !bytes.Equal(arg[:cap(arg)], kept[:cap(kept)]) || !bytes.Equal(in, stuffed) || !bytes.Equal(between, framed[1:len(framed)-1]) || !bytes.Equal(message, packed) {
				t.Fatalf("G3: an argument is changed")
			}
		}
	}
}

// two makes a call twice.
func two[A, B any](call func(A) (B, api.Errno), a A) (B, B, api.Errno) {
	first, _ := call(a)
	second, e := call(a)
	return first, second, e
}

// G3: of what an end is given, and of what it answers, nothing is seen in it or in another answer, written over and grown.
func TestEndNewMemory(t *testing.T) {
	e := wire.NewEnd()
	data := roomy([]byte("one"))
	send(t, e, data, data)
	ruin(data)
	first := e.Poll()
	e.Timeout()
	second := e.Poll()
	want := join(dataFrame(0, 0, 'o', 'n', 'e'), dataFrame(1, 0, 'o', 'n', 'e'))
	if !bytes.Equal(first, want) || share(pieceOf(first), pieceOf(second), pieceOf(data)) {
		t.Fatalf("G3: Poll = %x, want %x", first, want)
	}
	ruin(first)
	if !bytes.Equal(second, want) {
		t.Errorf("G3: an answer is seen in another one")
	}
	ruin(second)
	e.Timeout()
	polls(t, e, "G3: behind that", want)
	in := roomy(join(dataFrame(0, 0, 'a', 'b', 'c'), dataFrame(1, 0), dataFrame(2, 0, 'd'), dataFrame(3, 0, 'e')[:4]))
	e.Feed(in)
	ruin(in)
	got := e.Take()
	e.Feed(dataFrame(3, 0, 'e')[4:])
	later := e.Take()
	if !sameLists(got, lists("abc", "", "d")) || !sameLists(later, lists("e")) || share(append(append(piecesOf(got), piecesOf(later)...), pieceOf(in))...) {
		t.Fatalf("G3: Take = %q, %q", got, later)
	}
	for i := range got {
		ruin(got[i])
		got[i] = nil
	}
	_ = append(got[:0], lists("x", "y", "z", "z")...)
	e.Feed(dataFrame(4, 0, 'f'))
	takes(t, e, "G3: behind that", "f")
	if !sameLists(later, lists("e")) {
		t.Errorf("G3: an answer is seen in another one")
	}
}

// G2: an end knows nothing of another one.
func TestTwoEnds(t *testing.T) {
	a, b := wire.NewEnd(), wire.NewEnd()
	send(t, a, []byte("a"))
	a.Feed(join([]byte{0x7E}, full(600, 0)))
	b.Feed(join([]byte{0x7E}, dataFrame(0, 0, 'b')[:3]))
	counts(t, b, "G2", 0, 0)
	polls(t, b, "G2")
	a.Feed(dataFrame(0, 0, 'c'))
	b.Feed(dataFrame(0, 0, 'b')[3:])
	takes(t, b, "G2", "b")
	takes(t, a, "G2", "c")
	counts(t, a, "G2", 1, 1)
	counts(t, b, "G2", 0, 0)
	polls(t, b, "G2", readyFrame(1))
	polls(t, a, "G2", dataFrame(0, 1, 'a'))
}

// G4: nil and empty lists count as the same.
func TestNilAndEmpty(t *testing.T) {
	for _, none := range [][]byte{nil, {}, make([]byte, 0, 9)} {
		if b, e := wire.Unstuff(none); wire.Sum16(none) != 0 || len(wire.Stuff(none)) != 0 || len(b) != 0 || e != api.OK {
			t.Errorf("G4: Stuff and Unstuff: %d", e)
		}
		for _, kind := range []int{api.FrData, api.FrReady, api.FrAgain} {
			if b, e := wire.Frame(api.Frame{Kind: kind, Nr: 1, Data: none}); e != api.OK || len(b) != 5 {
				t.Errorf("G4: Frame: %x, %d", b, e)
			}
		}
		if _, e := wire.Unframe(none); e != api.ErrFrame {
			t.Errorf("G4: Unframe: %d", e)
		}
		if _, e := wire.Pack(api.Msg{Kind: api.MsAsk, Data: none}); e != api.OK {
			t.Errorf("G4: Pack: %d", e)
		}
		if _, e := wire.Pack(api.Msg{Kind: api.MsPiece, Data: none}); e != api.ErrMsg {
			t.Errorf("G4: Pack of no piece: %d", e)
		}
		if _, e := wire.Unpack(none); e != api.ErrMsg {
			t.Errorf("G4: Unpack: %d", e)
		}
		e := wire.NewEnd()
		e.Feed(none)
		send(t, e, none)
		polls(t, e, "G4: Send", dataFrame(0, 0))
	}
}

// G2: what is answered does not hang on other calls that are made at the same time, with the same arguments too.
func TestAtTheSameTime(t *testing.T) {
	t.Parallel()
	var wait sync.WaitGroup
	for i := range int64(8) {
		g := wildThings(rand.New(rand.NewSource(i)))
		want := calls(g)
		for range 4 {
			wait.Go(func() {
				for range 50 {
					if got := calls(g); !reflect.DeepEqual(got, want) {
						t.Errorf("G2: seed %d: another answer", i)
					}
				}
			})
		}
	}
	wait.Wait()
}

// heap is the memory that is in use.
func heap() uint64 {
	var m runtime.MemStats
	runtime.GC()
	runtime.ReadMemStats(&m)
	return m.HeapAlloc
}

// What is kept is the queue, what is not given out, and at most one frame. It is not parallel: it looks at memory.
func TestKeepsLittle(t *testing.T) {
	e := wire.NewEnd()
	ahead := heap()
	for i := range 20000 {
		send(t, e, full(256, byte(i)))
		e.Poll()
		e.Feed(readyFrame((i + 1) % 8))
		e.Feed(dataFrame(i%8, (i+1)%8, full(256, 1)...))
		e.Take()
		e.Feed(full(1000, 0))
	}
	counts(t, e, "kept", 0, 20000-1)
	if more := int64(heap() - ahead); more > 1<<18 {
		t.Errorf("%d bytes more are kept", more)
	}
	runtime.KeepAlive(e)
}

// G1: many bytes, most of them without sense.
func TestLarge(t *testing.T) {
	t.Parallel()
	began := time.Now()
	r := rand.New(rand.NewSource(9))
	noise := make([]byte, 8<<20)
	r.Read(noise)
	e := wire.NewEnd()
	for _, b := range [][]byte{full(8<<20, 0), full(8<<20, 0x7D), full(8<<20, 0x7E), noise, slices.Repeat(dataFrame(1, 0, 'x'), 1<<17)} {
		e.Feed(b)
		wire.Unframe(b)
		wire.Unpack(b)
		wire.Frame(api.Frame{Data: b})
		wire.Pack(api.Msg{Kind: api.MsPiece, Data: b})
		if err := e.Send(b); err != api.ErrFrame {
			t.Errorf("Send: %d", err)
		}
		if back, err := wire.Unstuff(wire.Stuff(b)); err != api.OK || !bytes.Equal(back, b) {
			t.Errorf("P17.2: %d", err)
		}
	}
	if e.Dropped() < 1<<17 || len(e.Take()) != 0 {
		t.Errorf("Dropped %d", e.Dropped())
	}
	if took := time.Since(began); took > 30*time.Second {
		t.Errorf("it took %v", took)
	}
}
