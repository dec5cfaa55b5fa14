package wire

import (
	"bytes"

	"junction/api"
)

// The lowest five bits of a control byte; those of data have the frame's number between two zeros. The highest three are Nr.
const (
	ready    = 1
	again    = 9
	kindBits = 0x1F
	dataBits = 0x11 // 0 in a control byte of data
)

const (
	numbers = 8 // frames are numbered 0 to 7, and round again
	sumSize = 2
	least   = 1 + sumSize // bytes of a frame without data
	most    = api.MaxPiece + least
	noKind  = -1
)

// Frame writes a frame, with its flags.
func Frame(f api.Frame) ([]byte, api.Errno) {
	if !isFrame(f) {
		return nil, api.ErrFrame
	}
	body := append([]byte{controlOf(f)}, f.Data...)
	sum := Sum16(body)
	body = append(body, byte(sum), byte(sum>>8))
	framed := append([]byte{flag}, Stuff(body)...)
	return append(framed, flag), api.OK
}

// Unframe reads what stands between two flags.
func Unframe(b []byte) (api.Frame, api.Errno) {
	body, e := Unstuff(b)
	if e != api.OK {
		return api.Frame{}, e
	}
	if len(body) < least || len(body) > most {
		return api.Frame{}, api.ErrFrame
	}
	end := len(body) - sumSize
	if Sum16(body[:end]) != uint16(body[end])|uint16(body[end+1])<<8 {
		return api.Frame{}, api.ErrSum16
	}
	f := frameOf(body[0], body[1:end])
	if !isFrame(f) {
		return api.Frame{}, api.ErrFrame
	}
	return f, api.OK
}

// isFrame tells whether a frame can be written.
func isFrame(f api.Frame) bool {
	if !isNumber(f.Ns) || !isNumber(f.Nr) {
		return false
	}
	switch f.Kind {
	case api.FrData:
		return len(f.Data) <= api.MaxPiece
	case api.FrReady, api.FrAgain:
		return f.Ns == 0 && len(f.Data) == 0
	}
	return false
}

func isNumber(n int) bool { return n >= 0 && n < numbers }

// controlOf is the control byte of a frame that can be written.
func controlOf(f api.Frame) byte {
	high := byte(f.Nr) << 5
	switch f.Kind {
	case api.FrReady:
		return high | ready
	case api.FrAgain:
		return high | again
	}
	return high | byte(f.Ns)<<1
}

// frameOf is the frame of a control byte and its data; of no kind, if the control byte is none.
func frameOf(control byte, data []byte) api.Frame {
	f := api.Frame{Kind: noKind, Nr: int(control >> 5), Data: bytes.Clone(data)}
	switch {
	case control&dataBits == 0:
		f.Kind, f.Ns = api.FrData, int(control>>1)%numbers
	case control&kindBits == ready:
		f.Kind = api.FrReady
	case control&kindBits == again:
		f.Kind = api.FrAgain
	}
	return f
}
