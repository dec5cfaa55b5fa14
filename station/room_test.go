package station_test

import (
	"fmt"
	"strings"
	"testing"

	"junction/api"
	"junction/rom"
	"junction/wire"
)

// room is a control room whose line to a station loses nothing.
type room struct {
	mast
	*wire.End
}

func connect(t *testing.T, script string) room { return room{stand(t, script), wire.NewEnd()} }

// asks sends data, all in one line of bytes; the answers in words.
func (r room) asks(list ...[]byte) string {
	r.t.Helper()
	for _, data := range list {
		if e := r.Send(data); e != api.OK {
			r.t.Fatalf("Send: %d", e)
		}
	}
	r.Feed(readBytes(r.t, r.does("bytes "+toldBytes(r.Poll()))))
	var words []string
	for _, data := range r.Take() {
		m, e := wire.Unpack(data)
		if e != api.OK {
			r.t.Fatalf("P19.8: an answer that is none: %x", data)
		}
		words = append(words, told(m))
	}
	return strings.Join(words, ", ")
}

// hears holds the answers to messages against what they should be.
func (r room) hears(what, want string, list ...api.Msg) {
	r.t.Helper()
	var data [][]byte
	for _, m := range list {
		data = append(data, packed(r.t, m))
	}
	if got := r.asks(data...); got != want {
		r.t.Errorf("%s: %v: %s, want %s", what, list, got, want)
	}
}

func beginOf(slot int, data []byte) api.Msg {
	return api.Msg{Kind: api.MsBegin, Slot: slot, Num: uint32(len(data)), Sum: rom.Sum(data)}
}

func pieceOf(at int, data string) api.Msg {
	return api.Msg{Kind: api.MsPiece, Num: uint32(at), Data: []byte(data)}
}

var (
	finish = api.Msg{Kind: api.MsFinish}
	ask    = api.Msg{Kind: api.MsAsk}
)

func pickOf(slot int) api.Msg { return api.Msg{Kind: api.MsPick, Slot: slot} }

func dropOf(slot int) api.Msg { return api.Msg{Kind: api.MsDrop, Slot: slot} }

func refuse(e api.Errno) string { return fmt.Sprint("refuse ", int(e)) }

// upload sends data piece by piece, each message in a line of its own; the last answer.
func (r room) upload(slot int, data []byte, piece int) string {
	r.t.Helper()
	r.hears("upload", "done", beginOf(slot, data))
	for at := 0; at < len(data); at += piece {
		r.hears("upload", "done", pieceOf(at, string(data[at:min(at+piece, len(data))])))
	}
	return r.asks(packed(r.t, finish))
}

// What is no message, and a message that a station sends itself.
func TestNoMessage(t *testing.T) {
	r := connect(t, "flash 8 / power on")
	for _, data := range [][]byte{{}, {6}, {0, 0, 0, 0, 0, 0, 0, 0, 0, 0}, {6, 1, 0, 0, 0, 0, 0, 0, 0, 0}, {6, 0, 0, 0, 0, 0, 0, 0, 0, 0, 0}, {7, 0, 0, 0, 0, 0, 0, 0, 0, 0}, {9, 0, 0, 0, 0, 0, 0, 0, 0, 0}, {2, 0, 0, 0, 0, 0, 0, 0, 0, 0}, {255, 0, 0, 0, 0, 0, 0, 0, 0, 0}} {
		if got := r.asks(data); got != refuse(api.ErrMsg) {
			t.Errorf("no message: %x: %s", data, got)
		}
	}
	for _, m := range []api.Msg{{Kind: api.MsDone}, {Kind: api.MsRefuse, Num: 7}, {Kind: api.MsTell, Slot: 1, Num: 2, Sum: 3}} {
		r.hears("no message", refuse(api.ErrMsg), m)
	}
	r.hears("no message", "tell 255 0 0", ask)
}

// MsBegin: its errors, in their order; one that is refused leaves the upload that is going on as it is.
func TestBegin(t *testing.T) {
	r := connect(t, "flash 8 / power on")
	begin := func(slot int, num uint32) api.Msg {
		return api.Msg{Kind: api.MsBegin, Slot: slot, Num: num, Sum: rom.Sum([]byte("x"))}
	}
	for _, m := range []api.Msg{begin(9, 1), begin(9, 0), begin(255, 1<<20+1), begin(100, 5)} {
		r.hears("MsBegin", refuse(api.ErrSlot), m)
	}
	for _, m := range []api.Msg{begin(0, 0), begin(8, 0), begin(8, 1<<20+1), begin(7, 1<<32-1)} {
		r.hears("MsBegin", refuse(api.ErrData), m)
	}
	r.hears("MsBegin", refuse(api.ErrUpload), pieceOf(0, "x"))
	r.hears("MsBegin", "done, done, done", begin(0, 1), begin(8, 1<<20), begin(7, 1))
	r.hears("MsBegin", refuse(api.ErrSlot)+", "+refuse(api.ErrData)+", done", begin(9, 1), begin(8, 0), pieceOf(0, "x"))
	r.hears("MsBegin", refuse(api.ErrRefused), finish)
	r.hears("MsBegin", refuse(api.ErrUpload), finish)
}

// MsPiece: pieces out of place and too long leave the upload as it is.
func TestPiece(t *testing.T) {
	r := connect(t, "flash 8 / power on")
	r.hears("MsPiece", refuse(api.ErrUpload), pieceOf(0, "x"))
	data := []byte(table)
	r.hears("MsPiece", "done", beginOf(8, data))
	n := len(table)
	r.hears("MsPiece", refuse(api.ErrUpload), pieceOf(1, table[1:9]))
	r.hears("MsPiece", refuse(api.ErrUpload), pieceOf(0, table+"#"))
	r.hears("MsPiece", refuse(api.ErrUpload), api.Msg{Kind: api.MsPiece, Num: 1<<32 - 1, Data: []byte("xy")})
	r.hears("MsPiece", "done", pieceOf(0, table[:10]))
	r.hears("MsPiece", refuse(api.ErrUpload), pieceOf(0, table[:10]))
	r.hears("MsPiece", refuse(api.ErrUpload), pieceOf(9, table[9:]))
	r.hears("MsPiece", refuse(api.ErrUpload), pieceOf(11, table[11:]))
	r.hears("MsPiece", refuse(api.ErrUpload), pieceOf(10, table[10:]+"#"))
	r.hears("MsPiece", "done", pieceOf(10, table[10:]))
	r.hears("MsPiece", refuse(api.ErrUpload), pieceOf(n, "x"))
	r.hears("MsPiece", "done", finish)
	if got := held(t, r.Flash()).Held[8]; got != table {
		t.Errorf("MsPiece: %q", got)
	}
	r.hears("MsPiece", refuse(api.ErrUpload), pieceOf(n, "x"))
}

// An upload that begins anew.
func TestBeginAnew(t *testing.T) {
	r := connect(t, "flash 8 / power on")
	data := imageOf(t, quick)
	half := string(data[:100])
	r.hears("MsBegin", "done, done", beginOf(8, []byte(table)), pieceOf(0, table[:20]))
	r.hears("MsBegin", "done, done, done, "+refuse(api.ErrUpload), beginOf(3, data), pieceOf(0, half), beginOf(3, data), pieceOf(100, string(data[100:])))
	r.hears("MsBegin", "done, done, done", pieceOf(0, half), pieceOf(100, string(data[100:])), finish)
	want := plain{Held: map[int]string{3: string(data)}, Picked: -1}
	if got := held(t, r.Flash()); !got.equal(want) {
		t.Errorf("MsBegin: %v", got)
	}
}

// MsFinish: the upload ends, whatever is answered.
func TestFinish(t *testing.T) {
	r := connect(t, "flash 8 / power on")
	end := func(want api.Errno) {
		t.Helper()
		r.hears("MsFinish", refuse(want), finish)
		r.hears("MsFinish", refuse(api.ErrUpload), finish)
		r.hears("MsFinish", refuse(api.ErrUpload), pieceOf(0, "x"))
		r.hears("MsFinish", "tell 255 0 0", ask)
	}
	end(api.ErrUpload)
	image := imageOf(t, quick)
	r.hears("MsFinish", "done", beginOf(1, image))
	end(api.ErrUpload)
	r.hears("MsFinish", "done, done", beginOf(1, image), pieceOf(0, string(image[:len(image)-1])))
	end(api.ErrUpload)
	wrong := beginOf(1, image)
	wrong.Sum ^= 1
	r.hears("MsFinish", "done, done", wrong, pieceOf(0, string(image)))
	end(api.ErrUpload)
	for slot := range 9 {
		other := table
		if slot == 8 {
			other = string(image)
		}
		r.hears("MsFinish", "done, done", beginOf(slot, []byte(other)), pieceOf(0, other))
		end(api.ErrRefused)
	}
	if got := held(t, r.Flash()); len(got.Held) != 0 {
		t.Errorf("MsFinish: %v", got)
	}
	long := []byte(table + strings.Repeat("#", 4096))
	if got := r.upload(8, long, 246); got != refuse(api.ErrSpace) {
		t.Errorf("MsFinish: no room: %s", got)
	}
	end(api.ErrUpload)
	for slot := range 9 {
		data := image
		if slot == 8 {
			data = []byte(table)
		}
		if got := r.upload(slot, data, 50+slot); got != "done" || held(t, r.Flash()).Held[slot] != string(data) {
			t.Errorf("MsFinish: slot %d: %s", slot, got)
		}
	}
	end(api.ErrUpload)
}

// MsPick and MsDrop.
func TestPickAndDrop(t *testing.T) {
	r := connect(t, three+" / put 8 / {table} / .")
	for _, slot := range []int{8, 9, 100, 254} {
		r.hears("MsPick", refuse(api.ErrSlot), pickOf(slot))
	}
	r.hears("MsPick", refuse(api.ErrEmpty), pickOf(0))
	r.hears("MsPick", "done, done, done", pickOf(255), pickOf(7), pickOf(7))
	if got := held(t, r.Flash()).Picked; got != 7 {
		t.Errorf("MsPick: %d", got)
	}
	r.hears("MsDrop", refuse(api.ErrInUse), dropOf(7))
	for _, slot := range []int{9, 254, 255} {
		r.hears("MsDrop", refuse(api.ErrSlot), dropOf(slot))
	}
	r.hears("MsDrop", refuse(api.ErrEmpty), dropOf(0))
	r.hears("MsPick", "done", pickOf(255))
	r.hears("MsDrop", "done, done, "+refuse(api.ErrEmpty), dropOf(7), dropOf(8), dropOf(8))
	got := held(t, r.Flash())
	if _, ok := got.Held[8]; ok || len(got.Held) != 2 || got.Picked != -1 {
		t.Errorf("MsDrop: %v", got)
	}
}

// MsAsk tells what runs or is left, the ticks and the alarms.
func TestAsk(t *testing.T) {
	r := connect(t, three)
	r.hears("MsAsk", "tell 255 0 0", ask)
	r.does("run 5*0")
	r.hears("MsAsk", "tell 255 5 0, done, tell 255 5 0", ask, pickOf(1), ask)
	r.does("run 12*0")
	r.hears("MsAsk", "tell 1 17 0", ask)
	r.hears("MsAsk", "done, tell 1 17 0", pickOf(2), ask)
	r.does("run 2*0")
	r.hears("MsAsk", "tell 1 19 0", ask)
	r.does("stick 1 a / run 0")
	r.hears("MsAsk", "tell 255 20 1", ask)
	r.does("reset / run 0")
	r.hears("MsAsk", "tell 2 21 1", ask)
	r.does("stick 0 a / run 0")
	r.hears("MsAsk", "tell 255 22 2", ask)
	r.does("free / reset / put 0 / {quick} / . / pick 0 / run 5*0")
	r.hears("MsAsk", "tell 0 27 2", ask)
}

// What comes by the line and what comes by hand are the same.
func TestUploadRuns(t *testing.T) {
	r := connect(t, "flash 8 / power on / run 3*0")
	if got := r.upload(6, imageOf(t, small), 246); got != "done" {
		t.Fatal(got)
	}
	r.hears("P19.8", "done", pickOf(6))
	r.says("P19.8", "run 12*0", "3-10 rrr - / 11-12 lrr - / 13-14 grr 0")
	r.says("P19.8", "put 6 / {small} / . / run 0", "15 grr 0")
	if got := r.upload(6, imageOf(t, small), 17); got != "done" {
		t.Fatal(got)
	}
	r.says("P19.8", "run 0", "16 grr 0")
	if got := r.upload(6, imageOf(t, quick), 17); got != "done" {
		t.Fatal(got)
	}
	r.says("P19.8", "run 0", "17 grr -")
}

// bytes and timeout answer what goes out then.
func TestBytes(t *testing.T) {
	m := stand(t, "flash 8 / power on")
	end := wire.NewEnd()
	end.Send(packed(t, ask))
	frame := toldBytes(end.Poll())
	m.says("bytes", "bytes -", "-")
	m.says("bytes", "timeout", "-")
	m.says("bytes", "bytes "+strings.ToUpper(frame[:11]+frame[11:20]), "-")
	answer := m.does("bytes " + frame[20:])
	want, _ := wire.Frame(api.Frame{Kind: api.FrData, Ns: 0, Nr: 1, Data: packed(t, api.Msg{Kind: api.MsTell, Slot: 255})})
	if answer != toldBytes(want) {
		t.Errorf("bytes: %s, want %s", answer, toldBytes(want))
	}
	m.says("bytes", "bytes -", "-")
	m.says("bytes", "timeout", answer)
	m.says("bytes", "timeout", answer)
	m.says("bytes", "bytes -", "-")
	// The same frame again is not awaited: the station asks for the next one.
	again, _ := wire.Frame(api.Frame{Kind: api.FrAgain, Nr: 1})
	m.says("bytes", "bytes "+frame, toldBytes(again))
	ready, _ := wire.Frame(api.Frame{Kind: api.FrReady, Nr: 1})
	m.says("bytes", "bytes "+frame, toldBytes(ready))
	m.says("bytes", "bytes "+toldBytes(ready), "-")
	m.says("bytes", "timeout", "-")
	// Without power nothing comes, and all is forgotten.
	m.does("power off")
	m.refuses("bytes", "bytes "+frame, api.ErrOff)
	m.says("bytes", "power on / timeout", "-")
	m.says("bytes", "bytes "+frame, answer)
}

// An upload is lost with the power, and with a crash.
func TestUploadLost(t *testing.T) {
	for _, cut := range []string{"power off", "crash 5 5"} {
		r := connect(t, "flash 8 / power on")
		r.hears("What it holds", "done, done", beginOf(8, []byte(table)), pieceOf(0, table))
		r.does(cut + " / power on")
		r.End = wire.NewEnd()
		r.hears("What it holds", refuse(api.ErrUpload), finish)
	}
}

// A queue of answers that is full: 1032 messages in one line are all done, and 1024 of them are answered.
func TestFullQueue(t *testing.T) {
	m := stand(t, "flash 64 / power on / put 1 / {bare} / . / put 2 / {bare} / .")
	var line strings.Builder
	for i := range 1032 {
		data := packed(t, pickOf(1+i%2))
		frame, e := wire.Frame(api.Frame{Kind: api.FrData, Ns: i % 8, Data: data})
		if e != api.OK {
			t.Fatal(e)
		}
		line.WriteString(toldBytes(frame))
	}
	out := m.does("bytes " + line.String())
	end := wire.NewEnd()
	answers := 0
	for range 300 {
		end.Feed(readBytes(t, out))
		for _, data := range end.Take() {
			if got, _ := wire.Unpack(data); told(got) != "done" {
				t.Fatalf("P19.8: %s", told(got))
			}
			answers++
		}
		out = m.does("bytes " + toldBytes(end.Poll()))
	}
	if answers != 1024 {
		t.Errorf("P19.8: %d answers", answers)
	}
	if got := held(t, m.Flash()).Picked; got != 2 {
		t.Errorf("P19.8: slot %d is picked", got)
	}
	// There is room again.
	end.Send(packed(t, ask))
	end.Feed(readBytes(t, m.does("bytes "+toldBytes(end.Poll()))))
	if list := end.Take(); len(list) != 1 {
		t.Errorf("P19.8: %d answers behind that", len(list))
	}
}
