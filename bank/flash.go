package bank

import "junction/api"

// halfSize leaves the last sector of an odd number out.
func (b *Bank) halfSize() int { return len(b.flash) / api.Sector / 2 * api.Sector }

// start is the first byte of a half.
func (b *Bank) start(half int) int { return half * b.halfSize() }

// half is one of the two, without room to grow into what lies behind it.
func (b *Bank) half(half int) []byte {
	from, to := b.start(half), b.start(half+1)
	return b.flash[from:to:to]
}

// do does an act on the bank's own flash at once, and keeps it for Acts.
func (b *Bank) do(a api.Act) {
	run(b.flash, a, steps(a))
	b.acts = append(b.acts, a)
}

func (b *Bank) program(at int, data []byte) {
	b.do(api.Act{Kind: api.AcProgram, Off: at, Data: data})
}

// wipe erases those sectors of a half that are not.
func (b *Bank) wipe(half int) {
	for at := b.start(half); at < b.start(half+1); at += api.Sector {
		if !isErased(b.flash[at : at+api.Sector : at+api.Sector]) {
			b.do(api.Act{Kind: api.AcErase, Off: at})
		}
	}
}
