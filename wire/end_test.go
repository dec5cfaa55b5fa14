package wire_test

import (
	"bytes"
	"math/rand"
	"testing"

	"junction/api"
	"junction/wire"
)

// P17.6: the chapter's example.
func TestExample(t *testing.T) {
	a, b := wire.NewEnd(), wire.NewEnd()
	send(t, a, lists("a", "b")...)
	first, second := dataFrame(0, 0, 'a'), dataFrame(1, 0, 'b')
	polls(t, a, "P17.6: both", first, second)
	polls(t, a, "P17.6: a second Poll")
	a.Timeout()
	polls(t, a, "P17.6: behind Timeout", first, second)
	b.Feed(second)
	counts(t, b, "P17.6: the first one is let go", 0, 1)
	takes(t, b, "P17.6: the first one is let go")
	polls(t, b, "P17.6: it is asked for", againFrame(0))
	a.Feed(againFrame(0))
	polls(t, a, "P17.6: asked", first, second)
	b.Feed(join(first, second))
	takes(t, b, "P17.6: both", "a", "b")
	polls(t, b, "P17.6: both have come", readyFrame(2))
	a.Feed(readyFrame(2))
	counts(t, a, "P17.6: both have come", 0, 0)
}

// P17.6: a new end has nothing, and has nothing to say.
func TestNewEnd(t *testing.T) {
	e := wire.NewEnd()
	if e == nil {
		t.Fatal("P17.6: nil")
	}
	for range 2 {
		counts(t, e, "P17.6: NewEnd", 0, 0)
		takes(t, e, "P17.6: NewEnd")
		polls(t, e, "P17.6: NewEnd")
		e.Timeout()
		e.Feed(nil)
	}
}

// P17.6: data of no bytes, of MaxPiece and of one more; MaxQueue data and one more; ErrFrame comes first.
func TestSend(t *testing.T) {
	e := wire.NewEnd()
	for _, n := range []int{257, 258, 512, 1 << 20} {
		if err := e.Send(full(n, 1)); err != api.ErrFrame {
			t.Errorf("P17.6: Send of %d bytes: %d", n, err)
		}
	}
	counts(t, e, "P17.6: refused", 0, 0)
	polls(t, e, "P17.6: refused")
	send(t, e, nil, []byte{}, full(256, 0x7E))
	polls(t, e, "P17.6: data of 0 and of 256 bytes", dataFrame(0, 0), dataFrame(1, 0), dataFrame(2, 0, full(256, 0x7E)...))
	for i := 3; i < 1024; i++ {
		send(t, e, []byte{byte(i)})
	}
	if e.Send(nil) != api.ErrQueue || e.Send(full(256, 1)) != api.ErrQueue || e.Send(full(257, 1)) != api.ErrFrame {
		t.Error("P17.6: a full queue")
	}
	counts(t, e, "P17.6: a full queue", 1024, 0)
	e.Feed(readyFrame(1))
	counts(t, e, "P17.6: one has come", 1023, 0)
	send(t, e, []byte("z"))
	if e.Send(nil) != api.ErrQueue {
		t.Error("P17.6: full again")
	}
	// All of them go out at last, in order, the refused ones not among them.
	last := []byte{}
	for nr := 1; e.Waiting() > 0; nr = (nr + 1) % 8 {
		if p := e.Poll(); len(p) > 0 {
			last = p
		}
		e.Feed(readyFrame(nr))
	}
	if want := dataFrame(1024%8, 0, 'z'); !bytes.HasSuffix(last, want) {
		t.Errorf("P17.6: the last one: %x, want %x", last, want)
	}
}

// P17.6: at most Window data go out; as they are acknowledged more do; numbers go round from 7 to 0.
func TestWindow(t *testing.T) {
	e := wire.NewEnd()
	for i := range 30 {
		send(t, e, []byte{byte(i)})
	}
	sent := 0
	for acked := range 31 {
		var want [][]byte
		for ; sent < min(30, acked+7); sent++ {
			want = append(want, dataFrame(sent%8, 0, byte(sent)))
		}
		polls(t, e, "P17.6: as many as the window lets", want...)
		polls(t, e, "P17.6: once")
		e.Feed(readyFrame((acked + 1) % 8))
		counts(t, e, "P17.6: one more is acknowledged", max(29-acked, 0), map[bool]int{true: 1}[acked == 30])
	}
	// Those that are sent while others are under way go out up to Window.
	e = wire.NewEnd()
	for i := range 9 {
		send(t, e, []byte{byte(i)})
		if i < 7 {
			polls(t, e, "P17.6: one by one", dataFrame(i, 0, byte(i)))
		} else {
			polls(t, e, "P17.6: Window are under way")
		}
	}
}

// P17.6: Nr acknowledges none, some, all that have gone out, and no more than that.
func TestAcknowledge(t *testing.T) {
	for from := range 8 { // the number of the first of the queue
		for gone := range 8 {
			for nr := range 8 {
				for _, kind := range []string{"ready", "again", "data", "other data"} {
					for _, timeout := range []bool{false, true} {
						checkAcknowledge(t, from, gone, nr, kind, timeout)
					}
				}
			}
		}
	}
}

// started is an end whose first data has that number: all ahead of it is acknowledged.
func started(t *testing.T, from int) *wire.End {
	t.Helper()
	e := wire.NewEnd()
	for range from {
		send(t, e, []byte("ahead"))
		e.Poll()
	}
	e.Feed(readyFrame(from))
	counts(t, e, "started", 0, 0)
	return e
}

func checkAcknowledge(t *testing.T, from, gone, nr int, kind string, timeout bool) {
	t.Helper()
	e := started(t, from)
	for i := range gone {
		send(t, e, []byte{byte(i)})
	}
	e.Poll()
	send(t, e, []byte{byte(gone)}, []byte{byte(gone + 1)}) // have not gone out
	if timeout {
		e.Timeout()
	}
	// dataFrames are those of the queue's data from one place to another.
	dataFrames := func(i, j, awaited int) []byte {
		var list [][]byte
		for ; i < j; i++ {
			list = append(list, dataFrame((from+i)%8, awaited, byte(i)))
		}
		return join(list...)
	}
	var frame, answer, ask []byte
	dropped, awaited := 0, 0
	next := gone
	if timeout {
		next = 0
	}
	n := (nr - from + 8) % 8
	switch kind {
	case "ready":
		frame = readyFrame(nr)
	case "again":
		frame = againFrame(nr)
	case "data":
		frame, answer, awaited = dataFrame(0, nr, 'x'), readyFrame(1), 1
	case "other data":
		frame, ask, dropped = dataFrame(5, nr, 'x'), againFrame(0), 1
	}
	if n > gone {
		n, dropped, awaited, answer, ask = 0, 1, 0, nil, nil
	} else if kind == "again" {
		next = 0
	}
	e.Feed(frame)
	counts(t, e, "P17.6: "+kind, gone+2-n, dropped)
	want := dataFrames(max(next, n), min(gone+2, n+7), awaited)
	if len(want) == 0 && len(ask) == 0 {
		want = answer
	}
	if got := e.Poll(); !bytes.Equal(got, join(ask, want)) {
		t.Fatalf("P17.6: %s: from %d, %d gone out, Nr %d, timeout %v: Poll = %x, want %x", kind, from, gone, nr, timeout, got, join(ask, want))
	}
	if got := e.Take(); len(got) != awaited {
		t.Fatalf("P17.6: %s: from %d, %d gone out, Nr %d: Take = %q", kind, from, gone, nr, got)
	}
	polls(t, e, "P17.6: nothing is owed")
}

// P17.6: behind a Timeout what has gone out may still be acknowledged, and is not sent again then.
func TestTimeout(t *testing.T) {
	e := wire.NewEnd()
	e.Timeout()
	send(t, e, lists("a", "b", "c", "d")...)
	e.Timeout()
	polls(t, e, "P17.6: Timeout ahead of all", dataFrame(0, 0, 'a'), dataFrame(1, 0, 'b'), dataFrame(2, 0, 'c'), dataFrame(3, 0, 'd'))
	e.Timeout()
	e.Timeout()
	e.Feed(readyFrame(3))
	polls(t, e, "P17.6: three have come", dataFrame(3, 0, 'd'))
	e.Feed(readyFrame(2)) // that would be seven more than have come
	counts(t, e, "P17.6: more than has gone out", 1, 1)
	// A Timeout leaves what is owed.
	e.Feed(dataFrame(1, 3, 'x'))
	e.Timeout()
	polls(t, e, "P17.6: asked, and again", againFrame(0), dataFrame(3, 0, 'd'))
	e.Feed(dataFrame(0, 4, 'y'))
	e.Timeout()
	polls(t, e, "P17.6: an answer alone", readyFrame(1))
	// All of a window goes out again, and no more than that.
	e = wire.NewEnd()
	var want [][]byte
	for i := range 9 {
		send(t, e, []byte{byte(i)})
		want = append(want, dataFrame(i%8, 0, byte(i)))
	}
	for range 3 {
		polls(t, e, "P17.6: a window", want[:7]...)
		e.Timeout()
	}
}

// P17.6: an end asks once for what it misses, until it has taken something; it answers each time.
func TestAsk(t *testing.T) {
	e := wire.NewEnd()
	e.Feed(dataFrame(1, 0, 'b'))
	e.Feed(dataFrame(2, 0, 'c'))
	counts(t, e, "P17.6: not awaited", 0, 2)
	polls(t, e, "P17.6: asked once", againFrame(0))
	polls(t, e, "P17.6: once")
	e.Feed(dataFrame(3, 0, 'd'))
	polls(t, e, "P17.6: asked already", readyFrame(0))
	e.Feed(againFrame(0)) // neither of these is a data frame
	e.Feed(readyFrame(0))
	polls(t, e, "P17.6: nothing is owed")
	e.Feed(dataFrame(7, 0, 'h'))
	polls(t, e, "P17.6: asked already", readyFrame(0))
	e.Feed(dataFrame(0, 0, 'a'))
	polls(t, e, "P17.6: taken", readyFrame(1))
	e.Feed(dataFrame(0, 0, 'a'))
	counts(t, e, "P17.6: doubled", 0, 5)
	polls(t, e, "P17.6: asked anew", againFrame(1))
	// The ask is owed still, though what was asked for has come meanwhile.
	e.Feed(dataFrame(1, 0, 'b'))
	e.Feed(dataFrame(1, 0, 'b'))
	e.Feed(dataFrame(2, 0, 'c'))
	polls(t, e, "P17.6: with what is awaited now", againFrame(3))
	takes(t, e, "P17.6: each once", "a", "b", "c")
	// Data that go out are an answer; an ask goes out ahead of them.
	send(t, e, lists("x", "y")...)
	e.Feed(dataFrame(3, 0, 'd'))
	polls(t, e, "P17.6: data answer", dataFrame(0, 4, 'x'), dataFrame(1, 4, 'y'))
	polls(t, e, "P17.6: answered")
	send(t, e, lists("z")...)
	e.Feed(dataFrame(6, 0, 'g'))
	polls(t, e, "P17.6: an ask and data", againFrame(4), dataFrame(2, 4, 'z'))
	polls(t, e, "P17.6: answered")
}

// P17.6: the frames that are taken go round from 7 to 0, and of all numbers one is awaited.
func TestReceive(t *testing.T) {
	for awaited := range 20 {
		for ns := range 8 {
			e := wire.NewEnd()
			for i := range awaited {
				e.Feed(dataFrame(i%8, 0, byte(i)))
			}
			if got := e.Take(); len(got) != awaited || awaited > 0 && got[awaited-1][0] != byte(awaited-1) {
				t.Fatalf("P17.6: Take = %x", got)
			}
			e.Feed(dataFrame(ns, 0, 'x'))
			if ns == awaited%8 {
				takes(t, e, "P17.6: awaited", "x")
				counts(t, e, "P17.6: awaited", 0, 0)
				polls(t, e, "P17.6: awaited", readyFrame((awaited+1)%8))
			} else {
				takes(t, e, "P17.6: not awaited")
				counts(t, e, "P17.6: not awaited", 0, 1)
				polls(t, e, "P17.6: not awaited", againFrame(awaited%8))
			}
		}
	}
}

// P17.6: Take gives each out once; data of no bytes are data.
func TestTake(t *testing.T) {
	e := wire.NewEnd()
	e.Feed(join(dataFrame(0, 0), dataFrame(1, 0, full(256, 0x7D)...)))
	e.Feed(dataFrame(2, 0))
	takes(t, e, "P17.6: no bytes and MaxPiece bytes", "", string(full(256, 0x7D)), "")
	takes(t, e, "P17.6: given out")
	e.Feed(dataFrame(3, 0, 'x'))
	takes(t, e, "P17.6: one more", "x")
	takes(t, e, "P17.6: given out")
}

// P17.6: bytes ahead of the first flag are let go, frames among them.
func TestFeedAhead(t *testing.T) {
	good := dataFrame(0, 0, 'a')
	for _, ahead := range [][]byte{nil, {1, 2, 3}, good[1 : len(good)-1], full(600, 0), full(518, 1), {0x7D}} {
		e := wire.NewEnd()
		e.Feed(ahead)
		counts(t, e, "P17.6: ahead of the first flag", 0, 0)
		e.Feed(good)
		counts(t, e, "P17.6: behind it", 0, 0)
		takes(t, e, "P17.6: behind it", "a")
	}
	// A frame without its first flag is let go, and its last flag is the first that comes.
	e := wire.NewEnd()
	e.Feed(good[1:])
	takes(t, e, "P17.6: no first flag")
	e.Feed(good[1:])
	takes(t, e, "P17.6: the last flag of another one", "a")
	counts(t, e, "P17.6: the last flag of another one", 0, 0)
}

// P17.6: one flag may stand between two frames, or many; what is refused is dropped, once.
func TestFeedBetween(t *testing.T) {
	e := wire.NewEnd()
	a, b, c := dataFrame(0, 0, 'a'), dataFrame(1, 0, 'b'), dataFrame(2, 0, 'c')
	e.Feed(join(a, b[1:], full(5, 0x7E), c))
	takes(t, e, "P17.6: flags", "a", "b", "c")
	counts(t, e, "P17.6: flags", 0, 0)
	spoilt := bytes.Clone(dataFrame(3, 0, 'd'))
	spoilt[2] ^= 1
	for i, piece := range [][]byte{{5, 6, 7}, {0}, {0x7D}, spoilt[1 : len(spoilt)-1], cut(0x10), cut(0x01, 1), append(cut(6, 'd'), 0), cut(6, 'd')[1:], cut(6, 'd')[:3], full(518, 0)} {
		e.Feed(piece)
		counts(t, e, "P17.6: within a frame", 0, i)
		e.Feed([]byte{0x7E})
		counts(t, e, "P17.6: refused", 0, i+1)
		e.Feed([]byte{0x7E, 0x7E})
		counts(t, e, "P17.6: nothing between two flags", 0, i+1)
	}
	polls(t, e, "P17.6: what came first is answered", readyFrame(3))
	polls(t, e, "P17.6: what is refused is not answered")
	e.Feed(dataFrame(3, 0, 'd'))
	takes(t, e, "P17.6: behind all that", "d")
	// A frame cut short is ended by the next one's flag.
	e.Feed(dataFrame(4, 0, 1, 2, 3)[:4])
	e.Feed(dataFrame(4, 0, 'e'))
	takes(t, e, "P17.6: behind one cut short", "e")
	counts(t, e, "P17.6: one cut short", 0, 11)
}

// longest is a frame with all its data, and its sum, to be stuffed: 517 bytes between its flags.
func longest(t *testing.T) []byte {
	t.Helper()
	r := rand.New(rand.NewSource(17))
	data := make([]byte, 256)
	for range 1 << 20 {
		for i := range data {
			data[i] = pick[byte](r, 0x7D, 0x7E)
		}
		if b, e := wire.Frame(api.Frame{Data: data}); e == api.OK && len(b) == 519 {
			return b
		}
	}
	t.Fatal("no such frame")
	return nil
}

// P17.6: a frame that is coming in may have 2*(MaxPiece + 3) bytes; with one more it is too long, and is dropped once, whatever is behind.
func TestFeedLong(t *testing.T) {
	e := wire.NewEnd()
	e.Feed(longest(t))
	if got := e.Take(); len(got) != 1 || len(got[0]) != 256 || e.Dropped() != 0 {
		t.Fatalf("P17.6: the longest frame: %x, dropped %d", got, e.Dropped())
	}
	for i, n := range []int{517, 518, 519, 520, 1036, 1037, 1038, 5000} {
		e.Feed(full(n, 0))
		counts(t, e, "P17.6: too long", 0, i)
		e.Feed([]byte{0x7E})
		counts(t, e, "P17.6: too long, ended", 0, i+1)
		e.Feed([]byte{0x7E})
		counts(t, e, "P17.6: the next one has begun", 0, i+1)
	}
	e.Feed(dataFrame(1, 0, 'b'))
	takes(t, e, "P17.6: behind that", "b")
	// A frame at its beginning, at its end, or behind 518 bytes, is part of what is let go.
	good := cut(2*2, 'c')
	for i, piece := range [][]byte{join(good, full(600, 0)), join(full(600, 0), good), join(full(518, 0), good), join(full(519, 0), good), join(full(518, 0), full(518, 0), good)} {
		e.Feed(piece)
		e.Feed([]byte{0x7E})
		takes(t, e, "P17.6: within what is too long")
		counts(t, e, "P17.6: within what is too long", 0, 8+i+1)
	}
	e.Feed(join(good, []byte{0x7E}))
	takes(t, e, "P17.6: behind all that", "c")
}

// both is an end, and the second way of it.
type both struct {
	end    *wire.End
	second model
}

// check makes one call of both, and holds all that they tell against each other.
func (b *both) check(t *testing.T, r *rand.Rand, feed func() []byte) {
	t.Helper()
	what := ""
	switch n := r.Intn(20); {
	case n < 5:
		data := anyData(r, pick(r, 0, 1, 2, r.Intn(30), 256, 257))
		what = "Send"
		if e, w := b.end.Send(data), b.second.send(data); e != w {
			t.Fatalf("P17.6: Send of %d bytes: %d, want %d", len(data), e, w)
		}
	case n < 14:
		what = "Feed"
		bytes := feed()
		b.second.feed(bytes)
		for len(bytes) > 0 { // in parts
			n := 1 + r.Intn(len(bytes))
			b.end.Feed(bytes[:n])
			bytes = bytes[n:]
		}
	case n < 17:
		what = "Poll"
		if got, want := b.end.Poll(), b.second.poll(); !bytes.Equal(got, want) {
			t.Fatalf("P17.6: Poll = %x, want %x", got, want)
		}
	case n < 18:
		what = "Timeout"
		b.end.Timeout()
		b.second.timeout()
	default:
		what = "Take"
		if got, want := b.end.Take(), b.second.take(); !sameLists(got, want) {
			t.Fatalf("P17.6: Take = %x, want %x", got, want)
		}
	}
	if b.end.Waiting() != len(b.second.given)-b.second.acked || b.end.Dropped() != b.second.dropped {
		t.Fatalf("P17.6: %s: Waiting %d, Dropped %d, want %d, %d", what, b.end.Waiting(), b.end.Dropped(), len(b.second.given)-b.second.acked, b.second.dropped)
	}
	// P17.10 of the second way, and so of the end.
	if under := b.second.top - b.second.acked; under < 0 || under > 7 {
		t.Fatalf("P17.10: %d are under way", under)
	}
}

// likely are the bytes of a frame that an end in that state may get, or of something else.
func (b *both) likely(r *rand.Rand) []byte {
	nr, ns := (b.second.acked+r.Intn(max(b.second.top-b.second.acked, 0)+1))%8, len(b.second.got)%8
	if r.Intn(8) == 0 {
		nr = r.Intn(8)
	}
	if r.Intn(4) == 0 {
		ns = r.Intn(8)
	}
	frame := dataFrame(ns, nr, anyData(r, r.Intn(5))...)
	switch r.Intn(12) {
	case 0:
		frame = readyFrame(nr)
	case 1:
		frame = againFrame(nr)
	case 2:
		frame = spoil(r, frame)
	case 3:
		frame = anyData(r, r.Intn(20))
	case 4:
		frame = join(full(pick(r, 515, 517, 518, 519, 700), 0), frame)
	case 5:
		frame = join(frame, frame[1:])
	case 6:
		frame = framed(anyData(r, 1+r.Intn(4))...)
	}
	return frame
}

// P17.6: all calls against the second way, over ends at random.
func TestEndsAtRandom(t *testing.T) {
	t.Parallel()
	r := rand.New(rand.NewSource(176))
	taken, acked, dropped, full := 0, 0, 0, 0
	for i := range 400 {
		b := both{end: wire.NewEnd()}
		if i%40 == 0 { // near a full queue
			for range 1020 {
				b.end.Send([]byte("x"))
				b.second.send([]byte("x"))
			}
			full++
		}
		for range 300 {
			b.check(t, r, func() []byte { return b.likely(r) })
		}
		taken, acked, dropped = taken+len(b.second.got), acked+b.second.acked, dropped+b.second.dropped
	}
	if taken < 10000 || acked < 5000 || dropped < 10000 || full < 10 {
		t.Errorf("taken %d, acknowledged %d, dropped %d", taken, acked, dropped)
	}
}

// P17.6: bytes may come in any parts.
func TestFeedInParts(t *testing.T) {
	t.Parallel()
	r := rand.New(rand.NewSource(177))
	for range 200 {
		b := both{end: wire.NewEnd()}
		var all []byte
		for range 40 {
			piece := b.likely(r)
			b.second.feed(piece)
			all = append(all, piece...)
		}
		whole, bytewise := wire.NewEnd(), wire.NewEnd()
		whole.Feed(all)
		for i := range all {
			bytewise.Feed(all[i : i+1])
			bytewise.Feed(nil)
		}
		for _, e := range []*wire.End{whole, bytewise} {
			if e.Dropped() != b.second.dropped || !sameLists(e.Take(), b.second.got) {
				t.Fatalf("P17.6: %x", all)
			}
		}
	}
}
