package rom

import "strings"

// Kinds of records.
const (
	dataKind = 0
	endKind  = 1
	bankKind = 4
)

const (
	bankBytes  = 1 << 16 // bytes that an address can tell apart
	pieceBytes = 16      // data bytes of a record that is written
)

// hexWriter writes records, numbers high byte first.
type hexWriter struct {
	text strings.Builder
}

func hexOf(b []byte) string {
	w := new(hexWriter)
	for at := 0; at < len(b); at += pieceBytes {
		if bank := at / bankBytes; bank > 0 && at%bankBytes == 0 {
			w.record(bankKind, 0, byte(bank>>8), byte(bank))
		}
		w.record(dataKind, at%bankBytes, b[at:min(at+pieceBytes, len(b))]...)
	}
	w.record(endKind, 0)
	return w.text.String()
}

func (w *hexWriter) record(kind byte, address int, data ...byte) {
	w.text.WriteByte(':')
	sum := w.digits(byte(len(data)), byte(address>>8), byte(address), kind)
	sum += w.digits(data...)
	w.digits(-sum)
	w.text.WriteByte('\n')
}

// digits writes bytes, two digits each, and answers what they add up to.
func (w *hexWriter) digits(b ...byte) byte {
	const all = "0123456789ABCDEF"
	sum := byte(0)
	for _, x := range b {
		w.text.WriteByte(all[x>>4])
		w.text.WriteByte(all[x&15])
		sum += x
	}
	return sum
}
