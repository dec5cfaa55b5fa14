package wire_test

import (
	"bytes"
	"fmt"
	"math/bits"
	"math/rand"
	"testing"

	"junction/api"
	"junction/wire"
)

// isPlain tells whether a byte is neither a flag nor an escape.
func isPlain(x byte) bool { return x != 0x7E && x != 0x7D }

// turn turns bits of b: bit i of the pattern is the one i behind the first. False: P17.7 says nothing of it.
func turn(b []byte, first int, pattern uint32) ([]byte, bool) {
	last := first + bits.Len32(pattern) - 1
	if pattern&1 == 0 || last >= 8*len(b) {
		return nil, false
	}
	c := bytes.Clone(b)
	for i := first; i <= last; i++ {
		c[i/8] ^= byte(pattern>>(i-first)&1) << (i % 8)
	}
	for i := max(first/8-1, 0); i <= last/8; i++ {
		if !isPlain(b[i]) || !isPlain(c[i]) {
			return nil, false
		}
	}
	return c, true
}

// inner is what Frame writes between its flags.
func inner(t *testing.T, f api.Frame) []byte {
	t.Helper()
	b, e := wire.Frame(f)
	if e != api.OK {
		t.Fatalf("Frame(%+v): %d", f, e)
	}
	return b[1 : len(b)-1]
}

// P17.7: all turned bits within 16 of short frames.
func TestTurnedShort(t *testing.T) {
	t.Parallel()
	for _, f := range []api.Frame{
		{Kind: api.FrReady}, {Kind: api.FrAgain, Nr: 5}, {Ns: 3, Nr: 6}, {Ns: 7, Data: []byte{0xFF}}, {Data: []byte{0, 0, 0}}, {Nr: 2, Data: []byte{0x7E, 1, 0x7D, 2, 3}},
	} {
		b := inner(t, f)
		tried := 0
		for first := range 8 * len(b) {
			for pattern := uint32(1); pattern < 1<<16; pattern += 2 {
				c, ok := turn(b, first, pattern)
				if !ok {
					continue
				}
				tried++
				if g, e := wire.Unframe(c); e == api.OK {
					t.Fatalf("P17.7: %x, turned from bit %d on by %04X to %x, is let in as %+v", b, first, pattern, c, g)
				}
			}
		}
		if tried < 100000 {
			t.Errorf("P17.7: %+v: %d tried", f, tried)
		}
	}
}

// P17.7: at random over frames of all lengths.
func TestTurnedAtRandom(t *testing.T) {
	t.Parallel()
	r := rand.New(rand.NewSource(1707))
	tried := 0
	for range 3000 {
		b := inner(t, anyFrame(r))
		for range 100 {
			first := pick(r, r.Intn(8*len(b)), max(0, 8*len(b)-1-r.Intn(24)))
			pattern := pick(r, 1, uint32(r.Intn(1<<16))|1, 1<<15|1, 3)
			c, ok := turn(b, first, pattern)
			if !ok {
				continue
			}
			tried++
			if g, e := wire.Unframe(c); e == api.OK {
				t.Fatalf("P17.7: %x, turned from bit %d on by %04X to %x, is let in as %+v", b, first, pattern, c, g)
			}
		}
	}
	if tried < 100000 {
		t.Errorf("P17.7: %d tried", tried)
	}
	// One bit more may go unseen: these seventeen are the polynomial, its highest term first.
	b := inner(t, api.Frame{Data: full(8, 0x11)})
	c, ok := turn(b, 20, uint32(bits.Reverse16(0x1021))<<1|1)
	if f, e := wire.Unframe(c); !ok || e != api.OK || bytes.Equal(f.Data, full(8, 0x11)) {
		t.Errorf("seventeen bits: %+v, %d", f, e)
	}
}

// side is an end with what it was given to send and what it has given out; each data tells its place in what was given.
type side struct {
	end   *wire.End
	given [][]byte
	got   [][]byte
	top   int // data that have gone out at least once
}

func newSide() *side { return &side{end: wire.NewEnd()} }

// give sends data of any length, if there is room.
func (s *side) give(t *testing.T, r *rand.Rand) {
	t.Helper()
	n := len(s.given)
	data := append([]byte{byte(n), byte(n >> 8)}, anyData(r, pick(r, 0, 1, r.Intn(12), r.Intn(255)))...)
	if n > 0 && len(s.given)-s.acked() == 1024 {
		return
	}
	send(t, s.end, data)
	s.given = append(s.given, data)
}

// acked is how many data are acknowledged.
func (s *side) acked() int { return len(s.given) - s.end.Waiting() }

// poll are the frames that go out, each with its flags.
func (s *side) poll(t *testing.T) [][]byte {
	t.Helper()
	var frames [][]byte
	out := s.end.Poll()
	for _, piece := range bytes.Split(out, []byte{0x7E}) {
		if len(piece) == 0 {
			continue
		}
		f, e := wire.Unframe(piece)
		if e != api.OK {
			t.Fatalf("P17.6: Poll = %x", out)
		}
		frames = append(frames, join([]byte{0x7E}, piece, []byte{0x7E}))
		if f.Kind == api.FrData {
			s.went(t, f)
		}
	}
	if !bytes.Equal(join(frames...), out) {
		t.Fatalf("P17.6: Poll = %x", out)
	}
	return frames
}

// went looks at a data frame that goes out.
func (s *side) went(t *testing.T, f api.Frame) {
	t.Helper()
	at := int(f.Data[0]) | int(f.Data[1])<<8
	if at >= len(s.given) || !bytes.Equal(f.Data, s.given[at]) || f.Ns != at%8 || at < s.acked() {
		t.Fatalf("P17.6: %+v goes out", f)
	}
	s.top = max(s.top, at+1)
	s.narrow(t)
}

// narrow is P17.10.
func (s *side) narrow(t *testing.T) {
	t.Helper()
	if under := s.top - s.acked(); under < 0 || under > api.Window {
		t.Fatalf("P17.10: %d data have gone out and are not acknowledged", under)
	}
}

// takes is P17.8: what has come is a beginning of what the other side was given.
func (s *side) takes(t *testing.T, other *side) {
	t.Helper()
	s.got = append(s.got, s.end.Take()...)
	if len(s.got) > len(other.given) || !sameLists(s.got, other.given[:len(s.got)]) {
		t.Fatalf("P17.8: %x has come, %x was given", s.got, other.given)
	}
	if other.acked() > len(s.got) {
		t.Fatalf("P17.8: %d are acknowledged, %d have come", other.acked(), len(s.got))
	}
}

// way is one direction of a line: what is under way on it, and what has come at its end.
type way struct {
	from, to *side
	flight   [][]byte
	begun    bool   // a flag has come
	rest     []byte // bytes behind the last flag
	turn     []byte // what stands between the flags of the last frame of which anything came
}

// fits tells whether all pieces that come about by these bytes, at the turn of that frame, are it, the one ahead of it, or refused: the condition of P17.8. What is behind the last flag counts as a piece too, since a flag may follow.
func (w *way) fits(b, frame []byte) bool {
	pieces := bytes.Split(join(w.rest, b), []byte{0x7E})
	if !w.begun {
		pieces = pieces[1:]
	}
	turn := w.turn
	for _, piece := range pieces {
		if _, e := wire.Unframe(piece); e != api.OK || len(piece) == 0 {
			continue
		}
		if bytes.Equal(piece, frame) {
			turn = frame
		}
		if !bytes.Equal(piece, turn) {
			return false
		}
	}
	return true
}

// bring lets these bytes come at the end, in parts.
func (w *way) bring(t *testing.T, r *rand.Rand, b, frame []byte) {
	t.Helper()
	if len(b) == 0 {
		return
	}
	pieces := bytes.Split(join(w.rest, b), []byte{0x7E})
	w.begun = w.begun || len(pieces) > 1
	w.rest, w.turn = pieces[len(pieces)-1], frame
	for len(b) > 0 {
		n := 1 + r.Intn(len(b))
		w.to.end.Feed(b[:n])
		b = b[n:]
	}
	w.from.narrow(t)
	w.to.narrow(t)
}

// fates are what can become of a frame.
var fates = []string{"whole", "whole", "whole", "whole", "whole", "let go", "twice", "cut short", "begun late", "noise", "noise ahead", "noise behind", "turned", "no last flag", "no first flag"}

// fated are the bytes that come of a frame.
func fated(r *rand.Rand, fate string, frame []byte) []byte {
	noise := anyData(r, pick(r, 1, 2, 5, r.Intn(40), 600))
	switch fate {
	case "let go":
		return nil
	case "twice":
		return join(frame, frame)
	case "cut short":
		return frame[:r.Intn(len(frame))]
	case "begun late":
		return frame[r.Intn(len(frame)):]
	case "noise":
		return noise
	case "noise ahead":
		return join(noise, frame)
	case "noise behind":
		return join(frame, noise)
	case "turned":
		c := bytes.Clone(frame)
		for range 1 + r.Intn(3) {
			c[r.Intn(len(c))] ^= 1 << r.Intn(8)
		}
		return c
	case "no last flag":
		return frame[:len(frame)-1]
	case "no first flag":
		return frame[1:]
	}
	return frame
}

// next lets something become of the frame that is under way first; where the condition of P17.8 would not hold, something else.
func (w *way) next(t *testing.T, r *rand.Rand, seen map[string]int) {
	t.Helper()
	if len(w.flight) == 0 {
		return
	}
	frame := w.flight[0]
	w.flight = w.flight[1:]
	for {
		fate := pick(r, fates...)
		b := fated(r, fate, frame)
		if w.fits(b, frame[1:len(frame)-1]) {
			seen[fate]++
			w.bring(t, r, b, frame[1:len(frame)-1])
			return
		}
	}
}

// calm is P17.9: so many rounds, and all has come.
func calm(t *testing.T, what string, r *rand.Rand, a, b *side, there, back *way) {
	t.Helper()
	rounds := (max(a.end.Waiting(), b.end.Waiting())+6)/7 + 1
	for range rounds {
		a.end.Timeout()
		b.end.Timeout()
		for _, frame := range a.poll(t) {
			there.bring(t, r, frame, frame[1:len(frame)-1])
		}
		for _, frame := range b.poll(t) {
			back.bring(t, r, frame, frame[1:len(frame)-1])
		}
		a.takes(t, b)
		b.takes(t, a)
	}
	if a.end.Waiting() != 0 || b.end.Waiting() != 0 || len(a.got) != len(b.given) || len(b.got) != len(a.given) {
		t.Fatalf("P17.9: %s: behind %d rounds %d and %d are waiting, %d of %d and %d of %d have come", what, rounds, a.end.Waiting(), b.end.Waiting(), len(a.got), len(b.given), len(b.got), len(a.given))
	}
}

// P17.8 to P17.10, W7: two ends over a line that does all that it may, then calm, then the same again.
func TestLineAtRandom(t *testing.T) {
	t.Parallel()
	seen := map[string]int{}
	for seed := range int64(600) {
		r := rand.New(rand.NewSource(seed))
		a, b := newSide(), newSide()
		there, back := &way{from: a, to: b}, &way{from: b, to: a}
		for range 3 {
			for range 150 {
				switch s, w := pick(r, a, b), pick(r, there, back); r.Intn(12) {
				case 0, 1:
					s.give(t, r)
				case 2, 3:
					w.flight = append(w.flight, w.from.poll(t)...)
				case 4:
					if r.Intn(3) == 0 {
						s.end.Timeout()
					}
				default:
					w.next(t, r, seen)
				}
				if r.Intn(3) == 0 {
					a.takes(t, b)
					b.takes(t, a)
				}
			}
			for range r.Intn(3) * 15 { // a long queue
				a.give(t, r)
			}
			// What is under way still is let go, or comes.
			for len(there.flight)+len(back.flight) > 0 && r.Intn(20) > 0 {
				pick(r, there, back).next(t, r, seen)
			}
			there.flight, back.flight = nil, nil
			calm(t, fmt.Sprint("seed ", seed), r, a, b, there, back)
		}
	}
	for _, fate := range fates {
		if seen[fate] < 500 {
			t.Errorf("%v", seen)
		}
	}
}

// P17.8, P17.9: seven data frames, and what answers them, each whole, let go or doubled in all ways, with numbers from each on.
func TestLineAllFates(t *testing.T) {
	t.Parallel()
	r := rand.New(rand.NewSource(1708))
	fate := func(w *way, frame []byte, which int) {
		for range which { // let go, whole, twice
			w.bring(t, r, frame, frame[1:len(frame)-1])
		}
	}
	for from := range 8 {
		for n := range 2187 {
			a, b := newSide(), newSide()
			there, back := &way{from: a, to: b}, &way{from: b, to: a}
			for range from {
				a.give(t, r)
			}
			calm(t, "ahead", r, a, b, there, back)
			for range 9 {
				a.give(t, r)
			}
			if n%5 == 0 {
				b.give(t, r)
			}
			left := n
			for _, frame := range a.poll(t) {
				fate(there, frame, left%3)
				left /= 3
			}
			b.takes(t, a)
			for i, frame := range b.poll(t) {
				fate(back, frame, (from+n/2+i)%3)
			}
			for i, frame := range a.poll(t) {
				fate(there, frame, (from+n/4+i*n)%3)
			}
			b.takes(t, a)
			calm(t, fmt.Sprint("all fates: ", from), r, a, b, there, back)
		}
	}
}

// P17.9: queues of all lengths, at both ends, need no more rounds than it says; of a full queue too.
func TestCalmRounds(t *testing.T) {
	t.Parallel()
	r := rand.New(rand.NewSource(1709))
	for _, n := range [][2]int{{0, 0}, {1, 0}, {0, 1}, {6, 0}, {7, 0}, {8, 0}, {0, 7}, {0, 8}, {7, 7}, {8, 7}, {7, 8}, {14, 15}, {15, 14}, {100, 3}, {3, 100}, {1024, 1024}, {1024, 0}, {0, 1024}} {
		a, b := newSide(), newSide()
		there, back := &way{from: a, to: b}, &way{from: b, to: a}
		for range n[0] {
			a.give(t, r)
		}
		for range n[1] {
			b.give(t, r)
		}
		calm(t, fmt.Sprint(n), r, a, b, there, back)
		calm(t, fmt.Sprint(n, " once more"), r, a, b, there, back)
	}
}

// P17.10: whatever comes, sense or not.
func TestWindowHolds(t *testing.T) {
	t.Parallel()
	r := rand.New(rand.NewSource(1710))
	most := 0
	for range 300 {
		s := newSide()
		for range 200 {
			switch r.Intn(8) {
			case 0, 1:
				s.give(t, r)
			case 2:
				s.end.Timeout()
			case 3, 4:
				s.poll(t)
			case 5:
				s.end.Feed(againFrame(r.Intn(8)))
			case 6:
				s.end.Feed(dataFrame(r.Intn(8), r.Intn(8), anyData(r, r.Intn(4))...))
			case 7:
				s.end.Feed(readyFrame((s.acked() + r.Intn(3)) % 8))
			}
			s.narrow(t)
			most = max(most, s.top-s.acked())
		}
	}
	if most != api.Window {
		t.Errorf("P17.10: %d at most", most)
	}
}
