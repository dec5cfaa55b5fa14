package wire

import "junction/api"

const (
	flag   = 0x7E // stands between frames, and nowhere else
	escape = 0x7D
	turned = 0x20 // the bit that is turned in what follows an escape
)

// Stuff lets no flag stand in bytes.
func Stuff(b []byte) []byte {
	stuffed := make([]byte, 0, len(b))
	for _, x := range b {
		if isSpecial(x) {
			stuffed = append(stuffed, escape, x^turned)
		} else {
			stuffed = append(stuffed, x)
		}
	}
	return stuffed
}

// Unstuff takes back what Stuff does.
func Unstuff(b []byte) ([]byte, api.Errno) {
	plain := make([]byte, 0, len(b))
	escaped := false
	for _, x := range b {
		switch {
		case escaped:
			// Just one way of writing a byte is let in, so that no two texts of a frame are the same frame.
			if !isSpecial(x ^ turned) {
				return nil, api.ErrStuff
			}
			plain = append(plain, x^turned)
			escaped = false
		case x == flag:
			return nil, api.ErrStuff
		case x == escape:
			escaped = true
		default:
			plain = append(plain, x)
		}
	}
	if escaped {
		return nil, api.ErrStuff
	}
	return plain, api.OK
}

// isSpecial tells whether a byte must not stand as it is.
func isSpecial(b byte) bool { return b == flag || b == escape }
