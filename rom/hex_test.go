package rom_test

import (
	"bytes"
	"math/rand"
	"strings"
	"testing"

	"junction/api"
	"junction/rom"
)

// P10.5: records, line by line.
func TestToHex(t *testing.T) {
	for _, c := range []struct {
		b    []byte
		want string
	}{
		{nil, ":00000001FF\n"},
		{[]byte{}, ":00000001FF\n"},
		{[]byte{1, 2, 255}, ":030000000102FFFB\n:00000001FF\n"},
		{[]byte{0}, ":0100000000FF\n:00000001FF\n"},
		{[]byte{255}, ":01000000FF00\n:00000001FF\n"},
		{[]byte("0123456789abcdef"), ":10000000303132333435363738396162636465668E\n:00000001FF\n"},
		{[]byte("0123456789abcdef\xAB"), ":10000000303132333435363738396162636465668E\n:01001000AB44\n:00000001FF\n"},
		{make([]byte, 32), ":1000000000000000000000000000000000000000F0\n:1000100000000000000000000000000000000000E0\n:00000001FF\n"},
	} {
		if s, e := rom.ToHex(c.b); s != c.want || e != api.OK {
			t.Errorf("ToHex(%x) = %q, %d, want %q", c.b, s, e, c.want)
		}
	}
}

// tail is a text's last lines.
func tail(s string, lines int) string {
	all := strings.SplitAfter(s, "\n")
	return strings.Join(all[max(0, len(all)-1-lines):], "")
}

// P10.5: bank records, at multiples of 65536 alone that have bytes behind them.
func TestBanks(t *testing.T) {
	t.Parallel()
	zeros := strings.Repeat("00", 16)
	for _, c := range []struct {
		count, lines, banks int
		tail                string
	}{
		{65520, 4095 + 1, 0, ":10FFE000" + zeros + "11\n" + endRecord},
		{65535, 4096 + 1, 0, ":0FFFF000" + zeros[2:] + "02\n" + endRecord},
		{65536, 4096 + 1, 0, ":10FFF000" + zeros + "01\n" + endRecord},
		{65537, 4097 + 2, 1, ":10FFF000" + zeros + "01\n:020000040001F9\n:0100000000FF\n" + endRecord},
		{131072, 8192 + 2, 1, ":10FFF000" + zeros + "01\n" + endRecord},
		{131073, 8193 + 3, 2, ":020000040002F8\n:0100000000FF\n" + endRecord},
		{api.MaxData, 65536 + 16, 15, ":10FFF000" + zeros + "01\n" + endRecord},
	} {
		s, e := rom.ToHex(make([]byte, c.count))
		if e != api.OK || strings.Count(s, "\n") != c.lines || strings.Count(s, ":02000004") != c.banks || tail(s, strings.Count(c.tail, "\n")) != c.tail {
			t.Errorf("ToHex of %d bytes: %d, %d lines, ends %q", c.count, e, strings.Count(s, "\n"), tail(s, 4))
		}
	}
	if s, _ := rom.ToHex(make([]byte, api.MaxData)); !strings.Contains(s, "\n:02000004000FEB\n:10000000"+zeros+"F0\n") {
		t.Error("no bank 15")
	}
}

// P10.5: too many bytes.
func TestToHexTooMany(t *testing.T) {
	for _, n := range []int{api.MaxData + 1, api.MaxData + 16, 3 * api.MaxData} {
		if s, e := rom.ToHex(make([]byte, n)); s != "" || e != api.ErrRom {
			t.Errorf("ToHex of %d bytes: %d, %d bytes of text", n, e, len(s))
		}
	}
}

// P10.5, P10.6: bytes at random, of lengths near all that is cut.
func TestHexAtRandom(t *testing.T) {
	t.Parallel()
	r := rand.New(rand.NewSource(7))
	counts := []int{65519, 65520, 65521, 65535, 65536, 65537, 65552, 131071, 131072, 131073, 200000, api.MaxData - 1, api.MaxData}
	for n := range 300 {
		counts = append(counts, n)
	}
	for _, n := range counts {
		b := make([]byte, n)
		r.Read(b)
		kept := bytes.Clone(b)
		s, e := rom.ToHex(b)
		if e != api.OK || s != hexed(kept) || !bytes.Equal(b, kept) {
			t.Fatalf("ToHex of %d bytes: %d, %.200q", n, e, s)
		}
		for _, text := range []string{s, strings.ToLower(s), strings.TrimSuffix(s, "\n"), strings.ReplaceAll(s, "\n", "\r\n")} {
			if again, f := rom.FromHex(text); f != (api.Fault{}) || !bytes.Equal(again, b) {
				t.Fatalf("FromHex of ToHex of %d bytes: %v", n, f)
			}
		}
	}
}

// reads looks whether FromHex answers those bytes.
func reads(t *testing.T, what, s string, want []byte) {
	t.Helper()
	if b, f := rom.FromHex(s); f != (api.Fault{}) || !bytes.Equal(b, want) {
		t.Errorf("%s: FromHex(%.200q) = %.50x, %v, want %.50x", what, s, b, f, want)
	}
}

// stops looks whether FromHex answers that fault, and no bytes.
func stops(t *testing.T, what, s string, code api.Errno, line, col int) {
	t.Helper()
	want := api.Fault{Code: code, At: api.Pos{Line: line, Col: col}}
	if b, f := rom.FromHex(s); f != want || len(b) != 0 {
		t.Errorf("%s: FromHex(%.200q) = %.50x, %v, want %v", what, s, b, f, want)
	}
}

// P10.6: what is let in.
func TestFromHex(t *testing.T) {
	reads(t, "the end alone", endRecord, nil)
	reads(t, "without a line feed", ":00000001FF", nil)
	reads(t, "small letters", ":00000001ff", nil)
	reads(t, "both sizes of letters", ":00000001fF\n", nil)
	reads(t, "carriage return", ":00000001FF\r\n", nil)
	reads(t, "all small letters", ":06000000aabbccddeeffff\n"+endRecord, []byte{0xAA, 0xBB, 0xCC, 0xDD, 0xEE, 0xFF})
	reads(t, "lines' ends mixed", record(0, 0, 1, 2)+"\r\n"+record(0, 2, 3)+"\n"+record(0, 3)+"\r\n"+record(0, 3, 4)+"\n:00000001FF", []byte{1, 2, 3, 4})
	reads(t, "no data", record(0, 0)+"\n"+record(0, 0)+"\n"+endRecord, nil)
	many := bytes.Repeat([]byte{7, 0x80}, 127)
	reads(t, "255 bytes", record(0, 0, append(many, 9)...)+"\n"+record(0, 255, 1)+"\n"+endRecord, append(append([]byte{}, many...), 9, 1))
	reads(t, "a bank at 0 bytes", record(4, 0, 0, 0)+"\n"+record(0, 0, 5)+"\n"+endRecord, []byte{5})
	reads(t, "two banks at 0 bytes", record(4, 0, 0, 0)+"\n"+record(4, 0, 0, 0)+"\n"+endRecord, nil)
	for digit, want := range map[string]byte{"0": 0, "9": 9, "A": 10, "F": 15, "a": 10, "f": 15} {
		reads(t, digit, ":010000000"+digit+record(0, 0, want)[11:]+"\n"+endRecord, []byte{want})
	}
}

// P10.6: faults within a line, in the chapter's order.
func TestFromHexFaults(t *testing.T) {
	for _, c := range []struct {
		what      string
		s         string
		code      api.Errno
		line, col int
	}{
		{"no text", "", api.ErrCut, 1, 1},
		{"no end", record(0, 0), api.ErrCut, 1, 12},
		{"no end, line feed", record(0, 0) + "\n", api.ErrCut, 2, 1},
		{"no end, carriage return", record(0, 0) + "\r\n", api.ErrCut, 2, 1},
		{"no end, two lines", record(0, 0, 1) + "\n" + record(0, 1, 2, 3), api.ErrCut, 2, 16},
		{"no end, a bank", record(4, 0, 0, 0) + "\r\n" + record(0, 0, 2) + "\r\n", api.ErrCut, 3, 1},

		{"behind the end: empty", endRecord + "\n", api.ErrRest, 2, 1},
		{"behind the end: a carriage return", endRecord + "\r", api.ErrRest, 2, 1},
		{"behind the end: no record", endRecord + "xyz", api.ErrRest, 2, 1},
		{"behind the end: a record", endRecord + record(0, 0), api.ErrRest, 2, 1},
		{"behind the end: another end", ":00000001FF\r\n" + endRecord, api.ErrRest, 2, 1},
		{"behind the end: a blank", record(0, 0) + "\n" + endRecord + " ", api.ErrRest, 3, 1},
		{"example", ":00000001ff\r\n\n", api.ErrRest, 2, 1},

		{"an empty line", "\n" + endRecord, api.ErrHex, 1, 1},
		{"an empty line with carriage return", "\r\n" + endRecord, api.ErrHex, 1, 1},
		{"an empty second line", record(0, 0) + "\n\n" + endRecord, api.ErrHex, 2, 1},
		{"a blank ahead", " " + endRecord, api.ErrHex, 1, 1},
		{"no colon", "00000001FF\n", api.ErrHex, 1, 1},
		{"no colon, no digits", "xyz", api.ErrHex, 1, 1},
		{"a colon alone", ":", api.ErrHex, 1, 2},
		{"a colon and a line feed", ":\n", api.ErrHex, 1, 2},
		{"a colon and a carriage return, line feed", ":\r\n", api.ErrHex, 1, 2},
		{"a colon and a carriage return", ":\r", api.ErrHex, 1, 2},
		{"two colons", "::00000001FF", api.ErrHex, 1, 2},
		{"a letter g", ":00000001FG", api.ErrHex, 1, 11},
		{"a first digit /", ":/0000001FF", api.ErrHex, 1, 2},
		{"a digit :", ":0:000001FF", api.ErrHex, 1, 3},
		{"a digit @", ":00@00001FF", api.ErrHex, 1, 4},
		{"a digit `", ":000`0001FF", api.ErrHex, 1, 5},
		{"a digit g", ":0000g001FF", api.ErrHex, 1, 6},
		{"a digit G, and more wrong", ":0000G00xyz", api.ErrHex, 1, 6},
		{"a high byte", ":0000000\xff", api.ErrHex, 1, 9},
		{"a byte 0", ":00000001F\x00", api.ErrHex, 1, 11},
		{"a blank behind", ":00000001FF \n", api.ErrHex, 1, 12},
		{"a carriage return at the text's end", ":00000001FF\r", api.ErrHex, 1, 12},
		{"two carriage returns", ":00000001FF\r\r\n", api.ErrHex, 1, 12},
		{"a carriage return within", ":0000\r0001FF\n", api.ErrHex, 1, 6},
		{"a wrong digit in a line that is too long", ":00000001FF00G", api.ErrHex, 1, 14},
		{"a wrong digit in a line that is too short", ":00x", api.ErrHex, 1, 4},
		{"8 bytes", ":0000000", api.ErrHex, 1, 9},
		{"10 bytes", ":00000001F", api.ErrHex, 1, 11},
		{"10 bytes, line feed", ":00000001F\n", api.ErrHex, 1, 11},
		{"10 bytes, both", ":00000001F\r\n", api.ErrHex, 1, 11},
		{"12 bytes", ":00000001FF0", api.ErrHex, 1, 13},
		{"two digits too many", ":00000001FF00", api.ErrHex, 1, 14},
		{"two digits too few", ":01000000FF", api.ErrHex, 1, 12},
		{"a digit too few", ":0100000000F", api.ErrHex, 1, 13},
		{"255 bytes told", ":FF00000001", api.ErrHex, 1, 12},
		{"a length ahead of a sum", ":0100000000", api.ErrHex, 1, 12},

		{"a wrong sum", ":00000001FE", api.ErrSum, 1, 10},
		{"a wrong sum of data", ":0300000001020304F7", api.ErrHex, 1, 20},
		{"a wrong sum behind three bytes", ":03000000010203F6", api.ErrSum, 1, 16},
		{"a sum ahead of a kind", ":0000000200", api.ErrSum, 1, 10},
		{"a sum in the second line", record(0, 0) + "\n:0000000001\n", api.ErrSum, 2, 10},

		{"kind 2", record(2, 0), api.ErrField, 1, 8},
		{"kind 3", record(3, 0), api.ErrField, 1, 8},
		{"kind 5", record(5, 9, 1, 2), api.ErrField, 1, 8},
		{"kind 16", record(16, 0), api.ErrField, 1, 8},
		{"kind 255", record(255, 1), api.ErrField, 1, 8},
		{"an end with data", record(1, 0, 0), api.ErrField, 1, 2},
		{"an end with data and an address", record(1, 5, 0), api.ErrField, 1, 2},
		{"a bank without data", record(4, 0), api.ErrField, 1, 2},
		{"a bank with one byte", record(4, 0, 0), api.ErrField, 1, 2},
		{"a bank with three bytes", record(4, 7, 0, 0, 0), api.ErrField, 1, 2},
		{"an end with an address", record(1, 1), api.ErrField, 1, 4},
		{"an end with a high address", record(1, 256), api.ErrField, 1, 4},
		{"an end with the address of what was read", record(0, 0, 1) + "\n" + record(1, 1), api.ErrField, 2, 4},
		{"a bank with an address", record(4, 1, 0, 0), api.ErrField, 1, 4},
		{"a bank with a high address and a wrong number", record(4, 256, 0, 1), api.ErrField, 1, 4},
		{"data at another address", record(0, 1, 0), api.ErrField, 1, 4},
		{"no data at another address", record(0, 1), api.ErrField, 1, 4},
		{"data at a high address", record(0, 256, 0), api.ErrField, 1, 4},
		{"data that does not go on", record(0, 0, 1, 2) + "\n" + record(0, 1, 3), api.ErrField, 2, 4},
		{"data with a gap", record(0, 0, 1, 2) + "\n" + record(0, 3, 3), api.ErrField, 2, 4},
		{"a bank's number", record(4, 0, 0, 1), api.ErrField, 1, 10},
		{"a bank's number, high byte", record(4, 0, 1, 0), api.ErrField, 1, 10},
		{"a bank within one", record(0, 0, 1) + "\n" + record(4, 0, 0, 0), api.ErrField, 2, 10},
	} {
		stops(t, c.what, c.s, c.code, c.line, c.col)
	}
}

// P10.6: what may come where the bytes read are a multiple of 65536, and near it.
func TestFromHexBanks(t *testing.T) {
	t.Parallel()
	whole := texts(t, 65536)
	short := texts(t, 65535)
	line, zeros := strings.Count(whole, "\n")+1, make([]byte, 65536)
	bank := record(4, 0, 0, 1) + "\n"
	stops(t, "two bytes beyond", short+record(0, 65535, 0, 0), api.ErrField, line, 4)
	stops(t, "255 bytes beyond", short+record(0, 65535, make([]byte, 255)...), api.ErrField, line, 4)
	stops(t, "a bank ahead of the last byte", short+bank, api.ErrField, line, 10)
	stops(t, "the old bank ahead of the last byte", short+record(4, 0, 0, 0), api.ErrField, line, 10)
	reads(t, "the last byte", short+record(0, 65535, 0)+"\n"+endRecord, zeros)
	reads(t, "no bank at the end", whole+endRecord, zeros)
	reads(t, "no data", whole+record(0, 0)+"\n"+endRecord, zeros)
	reads(t, "a bank without data", whole+bank+endRecord, zeros)
	reads(t, "a bank twice", whole+bank+bank+record(0, 0, 9)+"\n"+endRecord, append(zeros, 9))
	reads(t, "no data between", whole+bank+record(0, 0)+"\n"+record(0, 0, 9)+"\n"+record(0, 1, 8)+"\n"+endRecord, append(zeros, 9, 8))
	stops(t, "data without a bank", whole+record(0, 0, 9)+"\n"+endRecord, api.ErrField, line, 4)
	stops(t, "no data, then data without a bank", whole+record(0, 0)+"\n"+record(0, 0, 9)+"\n"+endRecord, api.ErrField, line+1, 4)
	stops(t, "a bank at 0 bytes is not one for 65536", record(4, 0, 0, 0)+"\n"+whole+record(0, 0, 9), api.ErrField, line+1, 4)
	stops(t, "the old bank again", whole+record(4, 0, 0, 0), api.ErrField, line, 10)
	stops(t, "the next bank but one", whole+record(4, 0, 0, 2), api.ErrField, line, 10)
	stops(t, "an address that goes on", whole+bank+record(0, 1, 9), api.ErrField, line+1, 4)
	two := texts(t, 131072)
	after := strings.Count(two, "\n") + 1
	stops(t, "the second bank's place", two+record(0, 0, 9), api.ErrField, after, 4)
	reads(t, "the second bank", two+record(4, 0, 0, 2)+"\n"+record(0, 0, 9)+"\n"+endRecord, append(make([]byte, 131072), 9))
	stops(t, "the first bank once more", two+bank, api.ErrField, after, 10)
}

// P10.6: at most MaxData bytes.
func TestFromHexTooMany(t *testing.T) {
	t.Parallel()
	all := texts(t, api.MaxData)
	line := strings.Count(all, "\n") + 1
	bank := record(4, 0, 0, 16) + "\n"
	reads(t, "all", all+endRecord, make([]byte, api.MaxData))
	reads(t, "all and a bank", all+bank+endRecord, make([]byte, api.MaxData))
	reads(t, "all and no data", all+bank+record(0, 0)+"\n"+endRecord, make([]byte, api.MaxData))
	stops(t, "one more", all+bank+record(0, 0, 1)+"\n"+endRecord, api.ErrRom, line+1, 1)
	stops(t, "255 more", all+bank+record(0, 0, make([]byte, 255)...), api.ErrRom, line+1, 1)
	stops(t, "one more, without a bank", all+record(0, 0, 1), api.ErrField, line, 4)
	stops(t, "one more, elsewhere", all+bank+record(0, 1, 1), api.ErrField, line+1, 4)
	stops(t, "no end", all+bank, api.ErrCut, line+1, 1)
}

// hexAgrees looks whether FromHex answers as the second way does.
func hexAgrees(t *testing.T, s string) api.Errno {
	t.Helper()
	wanted, want := unhexedLines(s)
	b, f := rom.FromHex(s)
	if f != want || !bytes.Equal(b, wanted) {
		t.Fatalf("FromHex(%.300q) = %.100x, %v, want %.100x, %v", s, b, f, wanted, want)
	}
	return f.Code
}

// anyRecords is a text of records, most of them right, in lines of any end.
func anyRecords(r *rand.Rand) string {
	var out strings.Builder
	so := 0
	for range r.Intn(5) {
		data := make([]byte, pick(r, 0, 1, 2, 16, r.Intn(256)))
		r.Read(data)
		switch r.Intn(12) {
		case 0:
			out.WriteString(record(4, pick(r, 0, 0, 1), pick(r, data[:0], make([]byte, 2))...))
		case 1:
			out.WriteString(record(pick[byte](r, 0, 1, 2, 4), r.Intn(3), data...))
		default:
			out.WriteString(record(0, so, data...))
			so += len(data)
		}
		out.WriteString(pick(r, "\n", "\n", "\r\n"))
	}
	return out.String() + pick(r, endRecord, ":00000001ff", ":00000001FF\r\n", "")
}

// P10.6: texts at random, with bytes changed, put in and taken out.
func TestFromHexAtRandom(t *testing.T) {
	t.Parallel()
	r := rand.New(rand.NewSource(8))
	seen := map[api.Errno]int{}
	for range 60000 {
		s := anyRecords(r)
		if r.Intn(3) > 0 {
			i := r.Intn(len(s) + 1)
			j := min(len(s), i+r.Intn(3))
			s = s[:i] + pick(r, "", "0", "1", "F", "f", ":", "\n", "\r", "g", "\x00", "00", ":0000000000\n") + s[j:]
		}
		seen[hexAgrees(t, s)]++
	}
	for _, code := range []api.Errno{api.OK, api.ErrCut, api.ErrRest, api.ErrSum, api.ErrField, api.ErrHex} {
		if seen[code] < 500 {
			t.Errorf("%d answers of %d", seen[code], code)
		}
	}
}

// P10.6: each byte of a text as each byte there is; each piece of it alone.
func TestEachByteOfText(t *testing.T) {
	t.Parallel()
	s := record(4, 0, 0, 0) + "\r\n" + record(0, 0, 0x1F, 0xE2, 0x3D) + "\n" + record(0, 3) + "\n" + record(0, 3, 0xC4) + "\n" + endRecord + "\r\n"
	for i := range s {
		for x := range 256 {
			hexAgrees(t, s[:i]+string([]byte{byte(x)})+s[i+1:])
		}
		for j := i; j <= len(s); j++ {
			hexAgrees(t, s[i:j])
		}
	}
}

// P10.6: near a multiple of 65536, and near MaxData, lines in any order.
func TestBanksAtRandom(t *testing.T) {
	t.Parallel()
	r := rand.New(rand.NewSource(9))
	seen := map[api.Errno]int{}
	for _, c := range []struct{ count, times int }{{65530, 50}, {65535, 50}, {65536, 50}, {131072, 20}, {api.MaxData - 3, 20}, {api.MaxData, 20}} {
		begin := texts(t, c.count)
		for range c.times {
			so := c.count
			var rest strings.Builder
			for range 2 + r.Intn(6) {
				n := pick(r, 0, 1, 2, 6, 65536-so%65536)
				data := make([]byte, min(n, 255))
				if r.Intn(3) == 0 || so%65536 == 0 && r.Intn(4) > 0 {
					rest.WriteString(record(4, 0, 0, byte(so/65536)))
				} else {
					rest.WriteString(record(0, so%65536, data...))
					so += len(data)
				}
				rest.WriteString("\n")
			}
			seen[hexAgrees(t, begin+rest.String()+endRecord)]++
		}
	}
	for _, code := range []api.Errno{api.OK, api.ErrField, api.ErrRom} {
		if seen[code] < 3 {
			t.Errorf("%d answers of %d", seen[code], code)
		}
	}
}

// G1: texts of any bytes, and of a great length.
func TestAnyText(t *testing.T) {
	t.Parallel()
	r := rand.New(rand.NewSource(10))
	for range 20000 {
		b := make([]byte, r.Intn(40))
		for i := range b {
			b[i] = pick(r, ':', '0', '1', '4', 'F', '\n', '\r', byte(r.Uint32()))
		}
		hexAgrees(t, string(b))
		hexAgrees(t, ":"+string(b))
	}
	stops(t, "a long line", ":"+strings.Repeat("0", 1<<22), api.ErrHex, 1, 1<<22+2)
	stops(t, "a long line with a wrong end", ":"+strings.Repeat("0", 1<<22)+"x", api.ErrHex, 1, 1<<22+2)
	stops(t, "many lines", strings.Repeat(":0000000000\n", 1<<18), api.ErrCut, 1<<18+1, 1)
	reads(t, "many lines", strings.Repeat(":0000000000\n", 1<<18)+endRecord, nil)
	stops(t, "many empty lines", strings.Repeat("\n", 1<<20), api.ErrHex, 1, 1)
}
