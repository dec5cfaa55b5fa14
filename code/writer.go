package code

import "junction/api"

// writer writes code, and lets a pool grow on the way.
type writer struct {
	from   int // the place of the first instruction
	code   []api.Instr
	pool   []int32
	places map[int32]int // of each word of the pool the first place that holds it
	labels []func()      // of each jump whose end is still awaited what puts it right, the innermost last
	depth  int           // the greatest depth of the expressions that have been written
}

func newWriter(from int, pool []int32) *writer {
	w := &writer{from: from, places: map[int32]int{}}
	for _, word := range pool {
		w.keep(word)
	}
	return w
}

// written is what is written from a place on, as long as an image can hold it.
func written(at int, pool []int32, write func(*writer)) ([]api.Instr, []int32, api.Errno) {
	if at < 0 || at > api.MaxCode || len(pool) > api.MaxPool {
		return nil, nil, api.ErrFull
	}
	w := newWriter(at, pool)
	write(w)
	if w.here() > api.MaxCode || len(w.pool) > api.MaxPool {
		return nil, nil, api.ErrFull
	}
	return w.code, w.pool, api.OK
}

// here is the place of the instruction that is written next.
func (w *writer) here() int { return w.from + len(w.code) }

func (w *writer) put(op int, arg int32) { w.code = append(w.code, api.Instr{Op: op, Arg: arg}) }

// keep puts a word behind the pool's end. Where the pool holds it already, its place stays the first one.
func (w *writer) keep(word int32) {
	if _, there := w.places[word]; !there {
		w.places[word] = len(w.pool)
	}
	w.pool = append(w.pool, word)
}

// placeOf is a word's place in the pool, which grows if it has none yet.
func (w *writer) placeOf(word int32) int {
	if _, there := w.places[word]; !there {
		w.keep(word)
	}
	return w.places[word]
}

// jump writes a jump that goes forward, and hands out what puts it right where it ends.
func (w *writer) jump(op int) func() {
	i := len(w.code)
	w.put(op, 0)
	return func() { w.code[i].Arg = int32(w.here()) }
}

// await keeps what puts a jump right until it lands.
func (w *writer) await(label func()) { w.labels = append(w.labels, label) }

// land lets the jump end here that is awaited innermost.
func (w *writer) land() {
	last := len(w.labels) - 1
	label := w.labels[last]
	w.labels = w.labels[:last]
	label()
}
