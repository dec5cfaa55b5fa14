package wire

import (
	"slices"

	"junction/api"
)

// maxComing is how many bytes a frame can have at most, each of them stuffed.
const maxComing = 2 * most

// seek lets bytes go until the first flag comes.
func (e *End) seek(b byte) {
	if b == flag {
		e.step = (*End).gather
	}
}

// gather adds a byte to the frame that is coming in; a flag ends it.
func (e *End) gather(b byte) {
	switch {
	case b == flag:
		e.finish()
	case len(e.coming) == maxComing:
		e.step = (*End).skip
	default:
		e.coming = append(e.coming, b)
	}
}

// skip lets the rest of a frame go that is too long.
func (e *End) skip(b byte) {
	if b == flag {
		e.dropped++
		e.begin()
	}
}

// begin lets the next frame come in.
func (e *End) begin() {
	e.coming = e.coming[:0]
	e.step = (*End).gather
}

// finish looks at the frame that has come in. Two flags with nothing between them are no frame.
func (e *End) finish() {
	if len(e.coming) > 0 {
		f, refusal := Unframe(e.coming)
		if refusal != api.OK {
			e.dropped++
		} else {
			e.come(f)
		}
	}
	e.begin()
}

// come does what a frame says.
func (e *End) come(f api.Frame) {
	n := around(f.Nr - e.base)
	if n > e.high {
		e.dropped++
		return
	}
	e.acknowledge(n)
	switch f.Kind {
	case api.FrAgain:
		e.next = 0
	case api.FrData:
		e.receive(f)
	}
}

// acknowledge lets the first n data leave the queue.
func (e *End) acknowledge(n int) {
	e.queue = slices.Delete(e.queue, 0, n)
	e.base = around(e.base + n)
	e.high -= n
	e.next = max(e.next-n, 0)
}

// receive takes the data of the frame that is awaited. Another one tells that something was lost, or that an answer was: it is asked for once, and answered always.
func (e *End) receive(f api.Frame) {
	e.owesAnswer = true
	if f.Ns == e.awaited {
		e.taken = append(e.taken, f.Data)
		e.awaited = around(e.awaited + 1)
		e.asked = false
		return
	}
	e.dropped++
	if !e.asked {
		e.owesAsk, e.asked = true, true
	}
}

// framed are the bytes of a frame that tells what is awaited. Nothing that an end sends can be refused.
func (e *End) framed(f api.Frame) []byte {
	f.Nr = e.awaited
	b, _ := Frame(f)
	return b
}

// around is a number among those of frames; -8 and above may be given.
func around(n int) int { return (n + numbers) % numbers }
