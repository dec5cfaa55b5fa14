package rom

import "junction/api"

// maxConflicts is the number of pairs of all groups that there may be.
const maxConflicts = api.MaxGroups * (api.MaxGroups - 1) / 2

// reader reads an image field by field. It gives up by a panic with the fault, from however deep; whoever made it catches that.
type reader struct {
	bytes []byte
	at    int // the byte that comes next
	end   int // where the section ends, or what the sections stand in
	taken names
	image api.Image
}

func newReader(b []byte) *reader { return &reader{bytes: b, end: len(b), taken: names{}} }

func giveUp(e api.Errno, at int) { panic(api.Fault{Code: e, At: api.Pos{Col: at}}) }

func (r *reader) all() api.Image {
	r.magic()
	r.head()
	r.sum()
	for i, read := range [...]func(){r.title, r.groups, r.conflicts, r.dets, r.numbers, r.pool, r.slots, r.code} {
		r.section(i+1, read)
	}
	r.finish()
	return r.image
}

func (r *reader) magic() {
	for i, b := range r.bytes[:min(len(magic), len(r.bytes))] {
		if b != magic[i] {
			giveUp(api.ErrMagic, i)
		}
	}
	if len(r.bytes) < headBytes+sumBytes {
		giveUp(api.ErrCut, len(r.bytes))
	}
	r.at = len(magic)
}

func (r *reader) head() {
	at := r.at
	if r.raw(2) != version {
		giveUp(api.ErrVersion, at)
	}
	all, length := len(r.bytes), int(r.raw(4))
	if length > all {
		giveUp(api.ErrCut, all)
	}
	if length < all {
		giveUp(api.ErrRest, length)
	}
}

// sum looks at the last bytes; those ahead of them are left to the sections.
func (r *reader) sum() {
	first, last := r.at, len(r.bytes)-sumBytes
	r.at = last
	if uint32(r.raw(sumBytes)) != Sum(r.bytes[:last]) {
		giveUp(api.ErrSum, last)
	}
	r.at, r.end = first, last
}

func (r *reader) section(number int, read func()) {
	all := r.end
	r.number(1, number, number)
	length := int(r.raw(4))
	if length > all-r.at {
		giveUp(api.ErrCut, all)
	}
	r.end = r.at + length
	read()
	r.finish()
	r.end = all
}

// finish gives up if bytes are left over ahead of the end.
func (r *reader) finish() {
	if r.at < r.end {
		giveUp(api.ErrRest, r.at)
	}
}

// take copies a field's bytes out: nothing else touches those that were handed in.
func (r *reader) take(field []byte) {
	if len(field) > r.end-r.at {
		giveUp(api.ErrCut, r.end)
	}
	r.at += copy(field, r.bytes[r.at:])
}

// raw is a number of any range.
func (r *reader) raw(width int) uint64 {
	var field [8]byte
	r.take(field[:width])
	n := uint64(0)
	for i, b := range field {
		n |= uint64(b) << (8 * i)
	}
	return n
}

func (r *reader) number(width, lo, hi int) int {
	at := r.at
	n := int(r.raw(width))
	if lo < 0 {
		n = signed(n, width)
	}
	if !within(n, lo, hi) {
		giveUp(api.ErrField, at)
	}
	return n
}

// signed takes the highest bit of a number of so many bytes as its sign.
func signed(n, width int) int {
	if half := 1 << (8*width - 1); n >= half {
		return n - 2*half
	}
	return n
}

func (r *reader) word() int32 { return int32(r.raw(4)) }

func (r *reader) words(count int) []int32 {
	words := make([]int32, 0, min(count, (r.end-r.at)/4))
	for range count {
		words = append(words, r.word())
	}
	return words
}

func (r *reader) name() string {
	at := r.at
	text := make([]byte, r.number(1, 1, api.MaxName))
	r.take(text)
	name := string(text)
	if !isName(name) {
		giveUp(api.ErrField, at)
	}
	return name
}

// ownName is the name of a group or a detector, which no other one has.
func (r *reader) ownName() string {
	at := r.at
	name := r.name()
	if !r.taken.add(name) {
		giveUp(api.ErrField, at)
	}
	return name
}
