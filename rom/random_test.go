package rom_test

import (
	"fmt"
	"math/rand"

	"junction/api"
)

// anyImage is a formed image, small most often.
func anyImage(r *rand.Rand) api.Image {
	m := api.Image{Name: pick(r, "p", "north", "n0", "n1"), Timers: pick(r, 0, 1, 64), Counters: pick(r, 0, 1, 64), Depth: pick(r, 0, 1, 255, 256, 65535)}
	groups := pick(r, 0, 1, 2, 3, 5)
	if r.Intn(20) == 0 {
		groups = 64
	}
	for i := range groups {
		m.Tables.Groups = append(m.Tables.Groups, api.Group{Name: fmt.Sprint("n", i), Sort: 1 + r.Intn(2), Min: pick(r, 1, 5, 256, 3600), Amber: r.Intn(61), Lead: r.Intn(61)})
		for j := i + 1; j < groups; j++ {
			if r.Intn(2) == 0 {
				m.Tables.Conflicts = append(m.Tables.Conflicts, api.Conflict{A: i, B: j, AB: anyTime(r), BA: anyTime(r)})
			}
		}
	}
	for i := range r.Intn(4) {
		m.Dets = append(m.Dets, api.Det{Name: fmt.Sprint("d", i), Latch: r.Intn(2) == 0, Delay: anyTime(r), Hold: anyTime(r)})
	}
	m.Vars, m.Pool = anyWords(r), anyWords(r)
	id := -1
	for range 1 + r.Intn(4) {
		id += 1 + r.Intn(63)
		green := r.Uint64()
		if groups < 64 {
			green %= 1 << groups
		}
		m.Slots = append(m.Slots, api.Slot{Id: id, Green: green, Enter: anyPlace(r), Tick: anyPlace(r), Leave: anyPlace(r)})
	}
	m.Start = r.Intn(len(m.Slots))
	for range r.Intn(8) {
		m.Code = append(m.Code, anyInstr(r))
	}
	return m
}

func anyTime(r *rand.Rand) int  { return pick(r, 0, 1, 255, 256, 3599, 3600) }
func anyPlace(r *rand.Rand) int { return pick(r, 0, 1, 255, 256, 65534, 65535) }

func anyWords(r *rand.Rand) []int32 {
	var words []int32
	for range r.Intn(4) {
		words = append(words, pick(r, 0, 1, -1, least, most, int32(r.Uint32())))
	}
	return words
}

func anyInstr(r *rand.Rand) api.Instr {
	for {
		op := 20 + r.Intn(131)
		if a, known := argumentTable[op]; known {
			return api.Instr{Op: op, Arg: int32(pick(r, a.lo, a.hi, a.lo+r.Int63n(a.hi-a.lo+1)))}
		}
	}
}

// turned is a copy of bytes with a change or two: bytes set, put in, taken out, cut off.
func turned(r *rand.Rand, b []byte) []byte {
	b = append([]byte(nil), b...)
	for range 1 + r.Intn(2) {
		i := r.Intn(len(b) + 1)
		switch r.Intn(8) {
		case 0:
			b = append(b[:i], append([]byte{anyByte(r)}, b[i:]...)...)
		case 1:
			b = append(b[:i], b[min(i+1+r.Intn(3), len(b)):]...)
		case 2:
			b = b[:i]
		default:
			if i < len(b) {
				b[i] = pick(r, anyByte(r), b[i]+1, b[i]-1)
			}
		}
	}
	return b
}

func anyByte(r *rand.Rand) byte {
	return pick(r, 0, 1, 2, 3, 60, 61, 64, 65, 128, 131, 255, byte(r.Uint32()))
}
