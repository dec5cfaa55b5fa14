package wire_test

import (
	"bytes"
	"encoding/hex"
	"math/rand"
	"strings"
	"testing"

	"junction/api"
	"junction/wire"
)

// raw are the bytes of a text of hexadecimal digits and blanks.
func raw(t *testing.T, text string) []byte {
	t.Helper()
	b, err := hex.DecodeString(strings.ReplaceAll(text, " ", ""))
	if err != nil {
		t.Fatal(err)
	}
	return b
}

// full are n bytes of one worth.
func full(n int, x byte) []byte { return bytes.Repeat([]byte{x}, n) }

// anyData are n bytes, with many that must be stuffed among them.
func anyData(r *rand.Rand, n int) []byte {
	b := make([]byte, n)
	r.Read(b)
	for i := range b {
		if r.Intn(4) == 0 {
			b[i] = pick[byte](r, 0x7E, 0x7D, 0x5E, 0x5D, 0)
		}
	}
	return b
}

// pick is one of the list.
func pick[T any](r *rand.Rand, list ...T) T { return list[r.Intn(len(list))] }

// cut is a body with its sum behind it, stuffed, without flags: what Unframe is given.
func cut(body ...byte) []byte {
	sum := modelSum(body)
	return modelStuff(append(bytes.Clone(body), byte(sum), byte(sum>>8)))
}

// framed is the same between two flags.
func framed(body ...byte) []byte {
	return append(append([]byte{0x7E}, cut(body...)...), 0x7E)
}

// dataFrame, readyFrame and againFrame are frames as the chapter has them.
func dataFrame(ns, nr int, data ...byte) []byte {
	return framed(append([]byte{byte(2*ns + 32*nr)}, data...)...)
}

func readyFrame(nr int) []byte { return framed(byte(1 + 32*nr)) }

func againFrame(nr int) []byte { return framed(byte(9 + 32*nr)) }

// join is all of the frames, one behind the other.
func join(list ...[]byte) []byte { return bytes.Join(list, nil) }

func sameFrame(a, b api.Frame) bool {
	return a.Kind == b.Kind && a.Ns == b.Ns && a.Nr == b.Nr && bytes.Equal(a.Data, b.Data)
}

func sameMsg(a, b api.Msg) bool {
	return a.Kind == b.Kind && a.Slot == b.Slot && a.Num == b.Num && a.Sum == b.Sum && bytes.Equal(a.Data, b.Data)
}

func sameLists(a, b [][]byte) bool {
	if len(a) != len(b) {
		return false
	}
	for i := range a {
		if !bytes.Equal(a[i], b[i]) {
			return false
		}
	}
	return true
}

// lists are texts as data.
func lists(texts ...string) [][]byte {
	var all [][]byte
	for _, text := range texts {
		all = append(all, []byte(text))
	}
	return all
}

// send gives an end data that it must take.
func send(t *testing.T, e *wire.End, list ...[]byte) {
	t.Helper()
	for _, data := range list {
		if err := e.Send(data); err != api.OK {
			t.Fatalf("Send of %d bytes: %d", len(data), err)
		}
	}
}

// polls looks at what goes out.
func polls(t *testing.T, e *wire.End, what string, want ...[]byte) {
	t.Helper()
	if got := e.Poll(); !bytes.Equal(got, join(want...)) {
		t.Errorf("%s: Poll = %x, want %x", what, got, join(want...))
	}
}

// takes looks at what is given out.
func takes(t *testing.T, e *wire.End, what string, want ...string) {
	t.Helper()
	if got := e.Take(); !sameLists(got, lists(want...)) {
		t.Errorf("%s: Take = %q, want %q", what, got, want)
	}
}

// counts looks at the numbers that an end tells.
func counts(t *testing.T, e *wire.End, what string, waiting, dropped int) {
	t.Helper()
	if e.Waiting() != waiting || e.Dropped() != dropped {
		t.Errorf("%s: Waiting %d, Dropped %d, want %d, %d", what, e.Waiting(), e.Dropped(), waiting, dropped)
	}
}
