package station

import (
	"junction/api"
	"junction/driver"
	"junction/rom"
)

// block is the text that the lines behind a put or a hex make up to its point.
type block struct {
	read   func(slot int, text string) ([]byte, api.Fault) // what the text brings for a slot; nil, if no block is open
	target int                                             // the slot
	text   []byte
	isLong bool // more than may be has come: no more is kept
}

func (b *block) isOpen() bool { return b.read != nil }

// add puts a line behind the text.
func (b *block) add(line string) {
	if len(b.text)+len(line)+1 > api.MaxSource {
		b.isLong = true
	}
	if b.isLong {
		b.text = nil
		return
	}
	b.text = append(b.text, line...)
	b.text = append(b.text, '\n')
}

// shut ends the block; the slot that it is for, and what it brings.
func (b *block) shut() (int, []byte, api.Fault) {
	ended := *b
	*b = block{}
	if ended.isLong {
		return 0, nil, api.Fault{Code: api.ErrLong}
	}
	data, fault := ended.read(ended.target, string(ended.text))
	return ended.target, data, fault
}

// compiled is the image's bytes of a source, or the text of a timetable itself.
func compiled(slot int, text string) ([]byte, api.Fault) {
	if slot != tableSlot {
		return driver.Compile(text)
	}
	data := []byte(text)
	return data, refusal(slot, data)
}

// burnt are the bytes of hex records.
func burnt(slot int, text string) ([]byte, api.Fault) {
	data, fault := rom.FromHex(text)
	if fault.Code == api.OK {
		fault = refusal(slot, data)
	}
	return data, fault
}
