package rom

import (
	"strings"

	"junction/api"
	"junction/lex"
)

// Where the parts of a record stand in its line.
const (
	colonColumn   = 1
	countColumn   = 2
	addressColumn = 4
	kindColumn    = 8
	dataColumn    = 10
	leastLength   = 11 // of a line whose record has no data
)

// hexReader reads records line by line. It gives up as the reader of images does.
type hexReader struct {
	line   int // the one that is read
	data   []byte
	banked bool // a bank record has come since the last data
	ended  bool // the end record has come
}

// record is what a line tells.
type record struct {
	kind    byte
	address int
	data    []byte
}

func (r *hexReader) giveUp(e api.Errno, column int) {
	panic(api.Fault{Code: e, At: api.Pos{Line: r.line, Col: column}})
}

func (r *hexReader) all(s string) []byte {
	for line := range strings.Lines(s) {
		r.line++
		r.take(withoutEnd(line))
	}
	if !r.ended {
		panic(api.Fault{Code: api.ErrCut, At: lex.Place(s, len(s))})
	}
	return r.data
}

// withoutEnd leaves a carriage return that has no line feed behind it: it ends no line.
func withoutEnd(line string) string {
	text, ended := strings.CutSuffix(line, "\n")
	if ended {
		text = strings.TrimSuffix(text, "\r")
	}
	return text
}

func (r *hexReader) take(line string) {
	if r.ended {
		r.giveUp(api.ErrRest, colonColumn)
	}
	switch x := r.record(line); x.kind {
	case dataKind:
		r.takeData(x)
	case endKind:
		r.want(len(x.data) == 0, countColumn)
		r.want(x.address == 0, addressColumn)
		r.ended = true
	case bankKind:
		r.want(len(x.data) == 2, countColumn)
		r.want(x.address == 0, addressColumn)
		r.want(number(x.data)*bankBytes == len(r.data), dataColumn)
		r.banked = true
	default:
		r.giveUp(api.ErrField, kindColumn)
	}
}

func (r *hexReader) want(holds bool, column int) {
	if !holds {
		r.giveUp(api.ErrField, column)
	}
}

func (r *hexReader) takeData(x record) {
	at := len(r.data) % bankBytes
	r.want(x.address == at, addressColumn)
	r.want(at+len(x.data) <= bankBytes, addressColumn)
	if len(x.data) == 0 {
		return
	}
	r.want(at > 0 || len(r.data) == 0 || r.banked, addressColumn)
	if len(r.data)+len(x.data) > api.MaxData {
		r.giveUp(api.ErrRom, colonColumn)
	}
	r.data = append(r.data, x.data...)
	r.banked = false
}

// record reads a line's digits, and looks whether its length and its sum fit.
func (r *hexReader) record(line string) record {
	r.wantDigits(line)
	behind := len(line) + 1
	if len(line) < leastLength {
		r.giveUp(api.ErrHex, behind)
	}
	count := int(pair(line, countColumn))
	if len(line) != leastLength+2*count {
		r.giveUp(api.ErrHex, behind)
	}
	all := make([]byte, 0, 5+count)
	sum := byte(0)
	for column := countColumn; column < behind; column += 2 {
		all = append(all, pair(line, column))
		sum += all[len(all)-1]
	}
	if sum != 0 {
		r.giveUp(api.ErrSum, behind-2)
	}
	return record{kind: all[3], address: number(all[1:3]), data: all[4 : 4+count]}
}

// wantDigits gives up at the first byte that may not stand in a record, however long the line is.
func (r *hexReader) wantDigits(line string) {
	if !strings.HasPrefix(line, ":") {
		r.giveUp(api.ErrHex, colonColumn)
	}
	for i := 1; i < len(line); i++ {
		if digit(line[i]) > 15 {
			r.giveUp(api.ErrHex, i+1)
		}
	}
}

// pair is the byte whose first digit stands in that column.
func pair(line string, column int) byte { return digit(line[column-1])<<4 | digit(line[column]) }

// digit is above 15 of what is no hex digit.
func digit(c byte) byte {
	switch {
	case '0' <= c && c <= '9':
		return c - '0'
	case 'A' <= c && c <= 'F':
		return c - 'A' + 10
	case 'a' <= c && c <= 'f':
		return c - 'a' + 10
	}
	return 255
}

// number is that of two bytes, the high one first.
func number(b []byte) int { return int(b[0])<<8 | int(b[1]) }
