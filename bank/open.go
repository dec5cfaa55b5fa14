package bank

import "bytes"

// open is Open, with its error.
func open(flash []byte) (*Bank, error) {
	if !isFlash(len(flash)) {
		return nil, errDisk
	}
	b := &Bank{flash: bytes.Clone(flash)}
	first, second := generation(b.half(0)), generation(b.half(1))
	switch {
	case first == 0 && second == 0:
		b.format()
		return b, nil
	case first >= second:
		b.enter(0)
	default:
		b.enter(1)
	}
	if isErased(b.half(b.active)[b.end:]) {
		return b, nil
	}
	if err := b.move(b.state); err != nil {
		return nil, err
	}
	return b, nil
}

// format begins anew in the first half.
func (b *Bank) format() {
	b.wipe(0)
	b.program(0, header(1, b.halfSize()))
	b.enter(0)
}

// enter makes a half the active one, and reads it.
func (b *Bank) enter(half int) {
	b.active, b.end = half, headerSize
	b.state = state{picked: none}
	b.follow()
}

// follow takes the records from the log's end on. So the state is always what the flash says, and never what a caller has handed in.
func (b *Bank) follow() {
	for {
		r, ok := recordAt(b.half(b.active), b.end)
		if !ok {
			return
		}
		b.state.take(r)
		b.end += r.size()
	}
}
