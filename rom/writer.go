package rom

import "junction/api"

const (
	magic     = "JSP\x1a"
	version   = 1
	headBytes = 10
	sumBytes  = 4
)

// writer writes a formed image, numbers low byte first.
type writer struct {
	image *api.Image
	bytes []byte
}

func newWriter(m *api.Image) *writer { return &writer{image: m} }

func (w *writer) all() []byte {
	w.bytes = append(w.bytes, magic...)
	w.number(2, version)
	length := w.room()
	for i, write := range [...]func(){w.title, w.groups, w.conflicts, w.dets, w.numbers, w.pool, w.slots, w.code} {
		w.section(i+1, write)
	}
	w.fill(length, len(w.bytes)+sumBytes)
	w.number(sumBytes, int(Sum(w.bytes)))
	return w.bytes
}

// section writes its length when what is in it tells how long it is.
func (w *writer) section(number int, write func()) {
	w.number(1, number)
	length := w.room()
	write()
	w.fill(length, len(w.bytes)-length-4)
}

// number writes the lowest bytes of a number: of one below 0 they are its two's complement.
func (w *writer) number(width, n int) {
	for range width {
		w.bytes = append(w.bytes, byte(n))
		n >>= 8
	}
}

// room leaves four bytes for a length that is not known yet, and tells where they are.
func (w *writer) room() int {
	at := len(w.bytes)
	w.number(4, 0)
	return at
}

func (w *writer) fill(at, length int) {
	for i := range 4 {
		w.bytes[at+i] = byte(length >> (8 * i))
	}
}

func (w *writer) name(name string) {
	w.number(1, len(name))
	w.bytes = append(w.bytes, name...)
}

func (w *writer) words(words []int32) {
	for _, word := range words {
		w.number(4, int(word))
	}
}

func (w *writer) title() { w.name(w.image.Name) }

func (w *writer) groups() {
	w.number(1, len(w.image.Tables.Groups))
	for _, g := range w.image.Tables.Groups {
		w.name(g.Name)
		w.number(1, g.Sort)
		w.number(2, g.Min)
		w.number(1, g.Amber)
		w.number(1, g.Lead)
	}
}

func (w *writer) conflicts() {
	w.number(2, len(w.image.Tables.Conflicts))
	for _, c := range w.image.Tables.Conflicts {
		w.number(1, c.A)
		w.number(1, c.B)
		w.number(2, c.AB)
		w.number(2, c.BA)
	}
}

func (w *writer) dets() {
	w.number(1, len(w.image.Dets))
	for _, d := range w.image.Dets {
		w.name(d.Name)
		w.truth(d.Latch)
		w.number(2, d.Delay)
		w.number(2, d.Hold)
	}
}

func (w *writer) truth(yes bool) {
	if yes {
		w.number(1, 1)
	} else {
		w.number(1, 0)
	}
}

// numbers are those of the timers, counters and variables, and the variables' words.
func (w *writer) numbers() {
	w.number(1, w.image.Timers)
	w.number(1, w.image.Counters)
	w.number(1, len(w.image.Vars))
	w.words(w.image.Vars)
}

func (w *writer) pool() {
	w.number(2, len(w.image.Pool))
	w.words(w.image.Pool)
}

func (w *writer) slots() {
	w.number(2, w.image.Start)
	w.number(2, len(w.image.Slots))
	for _, s := range w.image.Slots {
		w.number(1, s.Id)
		w.number(8, int(s.Green))
		w.number(4, s.Enter)
		w.number(4, s.Tick)
		w.number(4, s.Leave)
	}
}

func (w *writer) code() {
	w.number(2, w.image.Depth)
	w.number(4, len(w.image.Code))
	for _, in := range w.image.Code {
		s, _ := shapeOf(in.Op)
		w.number(1, in.Op)
		w.number(s.width, int(in.Arg))
	}
}
