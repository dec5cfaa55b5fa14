package rom_test

import (
	"bytes"
	"encoding/binary"
	"fmt"
	"math/rand"
	"slices"
	"strings"
	"testing"

	"junction/api"
	"junction/rom"
)

// refuses looks whether Decode answers that fault, and nothing beside it.
func refuses(t *testing.T, what string, b []byte, want api.Fault) {
	t.Helper()
	m, f := rom.Decode(b)
	if f != want || !same(m, api.Image{}) {
		t.Errorf("%s: Decode(%.300x) = %+v, %v, want %v", what, b, m, f, want)
	}
}

// takes looks whether Decode answers an image that Encode writes as the same bytes.
func takes(t *testing.T, what string, b []byte) {
	t.Helper()
	m, f := rom.Decode(b)
	if f != (api.Fault{}) || !rom.Formed(m) {
		t.Errorf("%s: Decode(%.300x) = %v", what, b, f)
		return
	}
	if again, e := rom.Encode(m); e != api.OK || !bytes.Equal(again, b) {
		t.Errorf("%s: Encode of Decode(%.300x) = %.300x, %d", what, b, again, e)
	}
}

// P10.4: bytes are read as the image that they tell.
func TestDecode(t *testing.T) {
	for contents, want := range map[*[8]string]api.Image{&littleContents: little(), &richContents: rich()} {
		b := sealed(framed(contents[:]...))
		if m, f := rom.Decode(b); f != (api.Fault{}) || !same(m, want) {
			t.Errorf("Decode(%x) = %+v, %v, want %+v", b, m, f, want)
		}
		takes(t, want.Name, b)
	}
	m := full()
	b := encoded(m)
	if again, f := rom.Decode(b); f != (api.Fault{}) || !same(again, m) {
		t.Errorf("the full image: %v", f)
	}
	takes(t, "full", b)
}

// P10.4, points 1 to 3: the head and the sum, in their order.
func TestHead(t *testing.T) {
	good := sealed(framed(littleContents[:]...))
	with := func(place int, bs ...byte) []byte {
		b := slices.Clone(good)
		copy(b[place:], bs)
		return b
	}
	for _, c := range []struct {
		what string
		b    []byte
		want api.Fault
	}{
		{"no bytes", nil, at(api.ErrCut, 0)},
		{"no bytes", []byte{}, at(api.ErrCut, 0)},
		{"a wrong first byte", []byte("j"), at(api.ErrMagic, 0)},
		{"J", []byte("J"), at(api.ErrCut, 1)},
		{"a wrong second byte", []byte("Jsp"), at(api.ErrMagic, 1)},
		{"JS", []byte("JS"), at(api.ErrCut, 2)},
		{"JSQ", []byte("JSQ"), at(api.ErrMagic, 2)},
		{"JSP", []byte("JSP"), at(api.ErrCut, 3)},
		{"a wrong fourth byte", []byte("JSP\x1b"), at(api.ErrMagic, 3)},
		{"the magic alone", []byte("JSP\x1a"), at(api.ErrCut, 4)},
		{"two wrong bytes", with(1, 'x', 'x'), at(api.ErrMagic, 1)},
		{"a wrong fourth byte of all", with(3, 0), at(api.ErrMagic, 3)},
		{"a wrong version, cut", []byte("JSP\x1a\x02\x00"), at(api.ErrCut, 6)},
		{"13 bytes", good[:13], at(api.ErrCut, 13)},
		{"13 bytes of another version", with(4, 2)[:13], at(api.ErrCut, 13)},
		{"14 bytes", good[:14], at(api.ErrCut, 14)},
		{"14 bytes of another version", with(4, 2)[:14], at(api.ErrVersion, 4)},
		{"version 0", with(4, 0), at(api.ErrVersion, 4)},
		{"version 2", with(4, 2), at(api.ErrVersion, 4)},
		{"version 257", with(5, 1), at(api.ErrVersion, 4)},
		{"version 256", with(4, 0, 1), at(api.ErrVersion, 4)},
		{"another version, another length", with(4, 2, 0, 9), at(api.ErrVersion, 4)},
		{"a byte more", append(slices.Clone(good), 0), at(api.ErrRest, 99)},
		{"many bytes more", append(slices.Clone(good), good...), at(api.ErrRest, 99)},
		{"a byte less", good[:98], at(api.ErrCut, 98)},
		{"a length of one more", with(6, 100), at(api.ErrCut, 99)},
		{"a length of one less", with(6, 98), at(api.ErrRest, 98)},
		{"a length of 0", with(6, 0), at(api.ErrRest, 0)},
		{"a length of 3", with(6, 3), at(api.ErrRest, 3)},
		{"a length of 256 more", with(7, 1), at(api.ErrCut, 99)},
		{"a length of 2 to the 16 more", with(8, 1), at(api.ErrCut, 99)},
		{"the greatest length", with(6, 255, 255, 255, 255), at(api.ErrCut, 99)},
		{"a length with its highest bit", with(9, 128), at(api.ErrCut, 99)},
		{"the sum's first byte", with(95, good[95]^1), at(api.ErrSum, 95)},
		{"the sum's last byte", with(98, good[98]^128), at(api.ErrSum, 95)},
		{"a section's number", with(10, 9), at(api.ErrSum, 95)},
		{"a section's field", with(94, 0), at(api.ErrSum, 95)},
	} {
		refuses(t, c.what, c.b, c.want)
	}
}

// P10.4, point 3: one bit turned anywhere is found; behind the head by the sum.
func TestBits(t *testing.T) {
	t.Parallel()
	good := sealed(framed(richContents[:]...))
	for i := range good {
		for bit := range 8 {
			b := slices.Clone(good)
			b[i] ^= 1 << bit
			_, f := rom.Decode(b)
			if i >= 10 && f != at(api.ErrSum, len(b)-4) || f == (api.Fault{}) {
				t.Errorf("bit %d of byte %d: %v", bit, i, f)
			}
		}
	}
}

// P10.4, point 4: the sections' numbers and lengths; and point 5. In the body ^ is where the fault is told.
func TestSections(t *testing.T) {
	whole := fmt.Sprintf("%x", framed(littleContents[:]...))
	for _, c := range []struct {
		what string
		body string
		code api.Errno
	}{
		{"no section", "^", api.ErrCut},
		{"section 0", "^00 02000000 0170", api.ErrField},
		{"section 2 first", "^02 01000000 00", api.ErrField},
		{"section 9 alone", "^09", api.ErrField},
		{"no length", "01^", api.ErrCut},
		{"a length of three bytes", "01 020000^", api.ErrCut},
		{"a length that goes too far by one", "01 03000000 0170^", api.ErrCut},
		{"the greatest length", "01 ffffffff 0170^", api.ErrCut},
		{"a length beyond the sum", "01 07000000 0170^", api.ErrCut},
		{"no second section", "01 02000000 0170^", api.ErrCut},
		{"section 1 twice", "01 02000000 0170 ^01 02000000 0170", api.ErrField},
		{"section 3 as the second", "01 02000000 0170 ^03 02000000 0000", api.ErrField},
		{"no length of the second", "01 02000000 0170 02 010000^", api.ErrCut},
		{"the second goes too far", "01 02000000 0170 02 02000000 00^", api.ErrCut},
		{"a section too short for its field", "01 01000000 01^ 70", api.ErrCut},
		{"an empty section", "01 00000000 ^0170", api.ErrCut},
		{"a byte more in section 1", "01 03000000 0170 ^00", api.ErrRest},
		{"a wrong name ahead of a byte too much", "01 03000000 ^0139 00", api.ErrField},
		{"no section 8", strings.TrimSuffix(whole, "0809000000000003000000808080") + "^", api.ErrCut},
		{"a byte between section 8 and the sum", whole + "^00", api.ErrRest},
		{"a section 9", whole + "^09 00000000", api.ErrRest},
		{"section 8 again", whole + "^08 09000000 0000 03000000 808080", api.ErrRest},
	} {
		marked := strings.Index(strings.ReplaceAll(c.body, " ", ""), "^")
		body := unhexed(strings.Replace(c.body, "^", "", 1))
		refuses(t, c.what, sealed(body), at(c.code, 10+marked/2))
	}
}

// fieldCase is a section's content with ^ where the fault is told; without ^ it is taken.
type fieldCase struct {
	content string
	code    api.Errno
}

// fieldCases are by section, in place of that of the rich image.
func fieldCases() [8][]fieldCase {
	const cut, field, rest = api.ErrCut, api.ErrField, api.ErrRest
	long := strings.Repeat("78", 32)
	tail := "00 0100000000000000 00000000 00000000 00000000"
	return [8][]fieldCase{
		{
			{"01 41", 0}, {"20" + long, 0}, {"04 6d61696e", 0},
			{"^", cut}, {"^00", field}, {"^21" + long + "78", field}, {"^ff", field}, {"^00 70", field}, {"20^", cut}, {"20" + long[2:] + "^", cut}, {"02 70^", cut},
			{"^01 39", field}, {"^04 706c616e", field}, {"^03 612062", field}, {"^02 7020", field}, {"^01 00", field}, {"^01 ff", field}, {"01 70 ^70", rest},
		},
		{
			{"03 01 61 01 0100 00 00  01 62 02 100e 3c 3c  20" + long + " 01 0100 00 00", 0},
			{"^", cut}, {"^41", field}, {"^ff", field}, {"40^", cut}, {"01^", cut},
			{"01 ^00", field}, {"01 ^21", field}, {"01 01^", cut}, {"01 ^01 39", field}, {"01 ^03 6d6178 01 0100 00 00", field},
			{"01 01 61^", cut}, {"01 01 61 ^00 0100 00 00", field}, {"01 01 61 ^03 0100 00 00", field}, {"01 01 61 ^81", field},
			{"01 01 61 01^", cut}, {"01 01 61 01 01^", cut}, {"01 01 61 01 ^0000 00 00", field}, {"01 01 61 01 ^110e 00 00", field}, {"01 01 61 01 ^0110 00 00", field}, {"01 01 61 01 ^ffff", field},
			{"01 01 61 01 0100^", cut}, {"01 01 61 01 0100 ^3d 00", field}, {"01 01 61 01 0100 ^ff", field},
			{"01 01 61 01 0100 00^", cut}, {"01 01 61 01 0100 00 ^3d", field},
			{"02 01 61 01 0100 00 00^", cut}, {"02 01 61 01 0100 00 00 ^01 61 01 0100 00 00", field}, {"02 01 61 01 0100 00 00 01 62 ^00 0100 00 00", field},
			{"00 ^00", rest}, {"01 01 61 01 0100 00 00 ^01 62", rest}, {richContents[1] + " ^ff", rest},
		},
		{
			{"0000", 0}, {"0100 01 02 0000 100e", 0}, {"0200 00 02 0100 0100  01 02 0000 0000", 0}, {"0200 00 01 0100 0100  00 02 0000 0000", 0},
			{"^", cut}, {"00^", cut}, {"^e107", field}, {"^ffff", field}, {"e007^", cut}, {"0100^", cut},
			{"0100 ^03 02 0000 0000", field}, {"0100 ^ff", field}, {"0100 00^", cut},
			{"0100 00 ^00 0000 0000", field}, {"0100 01 ^01 0000 0000", field}, {"0100 01 ^00 0000 0000", field}, {"0100 00 ^03 0000 0000", field}, {"0100 02 ^03 0000 0000", field}, {"0100 02 ^02", field}, {"0100 02^", cut},
			{"0100 00 01^", cut}, {"0100 00 01 00^", cut}, {"0100 00 01 ^110e 0000", field}, {"0100 00 01 ^ffff", field}, {"0100 00 01 0000^", cut}, {"0100 00 01 0000 00^", cut}, {"0100 00 01 0000 ^110e", field},
			{"0200 00 01 0000 0000^", cut}, {"0200 00 01 0000 0000 00 ^01 0000 0000", field}, {"0200 00 02 0000 0000 00 ^01 0000 0000", field}, {"0200 01 02 0000 0000 00 ^01 0000 0000", field},
			{"0200 01 02 0000 0000 00 ^02 0000 0000", field}, {"0200 01 02 0000 0000 00^", cut}, {"0200 01 02 0000 0000 ^03", field},
			{"0000 ^00", rest}, {"0100 00 01 0000 0000 ^00 02 0000 0000", rest},
		},
		{
			{"00", 0}, {"02 01 61 00 0000 0000  05 6e6f727468 01 100e 100e", 0},
			{"^", cut}, {"^41", field}, {"40^", cut}, {"01 ^00", field}, {"01 01^", cut}, {"01 ^01 39", field}, {"01 ^02 6966", field},
			{"01 ^04 6d61696e 00 0000 0000", field}, {"01 ^01 77 00 0000 0000", field}, {"02 01 61 00 0000 0000 ^01 61 00 0000 0000", field},
			{"01 01 61^", cut}, {"01 01 61 ^02 0000 0000", field}, {"01 01 61 ^ff", field}, {"01 01 61 00^", cut}, {"01 01 61 00 01^", cut}, {"01 01 61 00 ^110e 0000", field},
			{"01 01 61 00 0000^", cut}, {"01 01 61 00 0000 ^110e", field}, {"01 01 61 00 0000 00^", cut}, {"00 ^00", rest}, {"01 01 61 00 0000 0000 ^00", rest},
		},
		{
			{"00 00 00", 0}, {"40 40 00", 0}, {"00 00 01 00000080", 0}, {"01 02 40" + strings.Repeat("ffffffff", 64), 0},
			{"^", cut}, {"^41", field}, {"00^", cut}, {"00 ^41", field}, {"00 00^", cut}, {"00 00 ^41", field}, {"00 00 ^ff", field}, {"00 00 01^", cut}, {"00 00 01 000000^", cut},
			{"00 00 02 00000000 0000^", cut}, {"00 00 00 ^00", rest}, {"00 00 01 00000000 ^00000000", rest},
		},
		{
			{"0000", 0}, {"0200 00000080 ffffff7f", 0}, {"0040" + strings.Repeat("01020304", 16384), 0},
			{"^", cut}, {"00^", cut}, {"^0140", field}, {"^ffff", field}, {"0040^", cut}, {"0100^", cut}, {"0100 010203^", cut}, {"0300 01020304 05060708^", cut}, {"0000 ^01", rest}, {"0100 01020304 ^05060708", rest},
		},
		{
			{"0000 0100 00 0700000000000000 ffff0000 ffff0000 ffff0000", 0}, {"0100 0200 00 0000000000000000 00000000 00000000 00000000 ff 0700000000000000 00000000 00000000 00000000", 0},
			{"^", cut}, {"00^", cut}, {"0000^", cut}, {"ffff 01^", cut}, {"0000 ^0000", field}, {"0500 ^0000", field}, {"0000 ^0101", field}, {"ffff ^0101", field}, {"^0100 0100 " + tail, field}, {"^ff00 0100", field}, {"^0001 0001", field}, {"ff00 0001^", cut}, {"^ffff 0100", field},
			{"0000 0100^", cut}, {"0000 0100 00^", cut}, {"0000 0100 00 00000000000000^", cut}, {"0000 0100 00 ^0800000000000000 00000000", field}, {"0000 0100 00 ^0000000000000080", field}, {"0000 0100 00 ^0000000001000000", field},
			{"0000 0100 00 0000000000000000^", cut}, {"0000 0100 00 0000000000000000 000000^", cut}, {"0000 0100 00 0000000000000000 ^00000100", field}, {"0000 0100 00 0000000000000000 ^000000ff", field},
			{"0000 0100 00 0000000000000000 00000000 ^00000100", field}, {"0000 0100 00 0000000000000000 00000000 00000000 ^00000100", field}, {"0000 0100 00 0000000000000000 00000000 00000000^", cut}, {"0000 0100 00 0000000000000000 00000000 00000000 0000^", cut},
			{"0000 0200 " + tail + "^", cut}, {"0000 0200 " + tail + " ^" + tail, field}, {"0000 0200 05" + tail[2:] + " ^04" + tail[2:], field}, {"0000 0200 ff" + tail[2:] + " ^ff" + tail[2:], field}, {"0000 0200 ff" + tail[2:] + " ^00" + tail[2:], field},
			{"0000 0100 " + tail + " ^00", rest},
		},
		{
			{"0000 00000000", 0}, {"ffff 01000000 80", 0}, {"0000 03000000 14 1e 33", 0},
			{"^", cut}, {"00^", cut}, {"0000^", cut}, {"0000 000000^", cut}, {"0000 ^01000100", field}, {"0000 ^ffffffff", field}, {"0000 ^00000001", field}, {"0000 00000100^", cut}, {"0000 01000000^", cut},
			{"0000 01000000 ^00", field}, {"0000 01000000 ^13", field}, {"0000 01000000 ^17", field}, {"0000 01000000 ^1d", field}, {"0000 01000000 ^25", field}, {"0000 01000000 ^27", field}, {"0000 01000000 ^2e", field}, {"0000 01000000 ^31", field}, {"0000 01000000 ^34", field}, {"0000 01000000 ^7f", field}, {"0000 01000000 ^97", field}, {"0000 01000000 ^ff", field}, {"0000 01000000 ^01", field},
			{"0000 01000000 81^", cut}, {"0000 01000000 81 00^", cut}, {"0000 01000000 81 ffff", 0}, {"0000 01000000 82^", cut}, {"0000 01000000 82 ff", 0}, {"0000 01000000 83^", cut}, {"0000 01000000 83 00", 0}, {"0000 01000000 83 ^02", field}, {"0000 01000000 83 ^ff", field},
			{"0000 01000000 85^", cut}, {"0000 01000000 85 ff", 0}, {"0000 01000000 96 ff", 0}, {"0000 01000000 92^", cut}, {"0000 01000000 92 000000^", cut}, {"0000 01000000 92 ffff0000", 0}, {"0000 01000000 93 ^00000100", field}, {"0000 01000000 94 ^00000001", field}, {"0000 01000000 95 ^ffffffff", field},
			{"0000 02000000 80^", cut}, {"0000 02000000 80 ^00", field}, {"0000 00000000 ^80", rest}, {"0000 01000000 80 ^80", rest}, {"0000 01000000 81 0000 ^00", rest},
		},
	}
}

// P10.4, point 4: the fields of each section, each at its edges.
func TestFields(t *testing.T) {
	for i, cases := range fieldCases() {
		for _, c := range cases {
			contents := richContents
			contents[i] = strings.Replace(c.content, "^", "", 1)
			b := sealed(framed(contents[:]...))
			what := fmt.Sprintf("section %d, %.80s", i+1, c.content)
			if c.code == api.OK {
				takes(t, what, b)
				continue
			}
			begin := 10 + len(framed(contents[:i]...)) + 5
			marked := strings.Index(strings.ReplaceAll(c.content, " ", ""), "^") / 2
			refuses(t, what, b, at(c.code, begin+marked))
		}
	}
}

// P10.4: of an image without groups no conflict and no green is in range.
func TestFieldsWithoutGroups(t *testing.T) {
	contents := littleContents
	contents[2] = "0100 00 01 0000 0000"
	refuses(t, "a conflict", sealed(framed(contents[:]...)), at(api.ErrField, 10+7+6+7))
	contents = littleContents
	contents[6] = "0000 0100 00 0100000000000000 00000000 01000000 02000000"
	refuses(t, "a green", sealed(framed(contents[:]...)), at(api.ErrField, 61))
}

// P10.4: the limits of the counts that the full image is at: one more is out of range at its number.
func TestCountsPastTheLimits(t *testing.T) {
	t.Parallel()
	good := encoded(full())
	for number, place := range map[int]int{2: 0, 3: 0, 4: 0, 5: 2, 6: 0, 7: 2, 8: 2} {
		body := bodyOf(good)
		from := 0
		for i := 1; i < number; i++ {
			from += 5 + int(binary.LittleEndian.Uint32(body[from+1:]))
		}
		from += 5 + place
		switch number {
		case 3, 6, 7:
			binary.LittleEndian.PutUint16(body[from:], binary.LittleEndian.Uint16(body[from:])+1)
		case 8:
			binary.LittleEndian.PutUint32(body[from:], binary.LittleEndian.Uint32(body[from:])+1)
		default:
			body[from]++
		}
		refuses(t, fmt.Sprint("section ", number), sealed(body), at(api.ErrField, 10+from))
	}
}

// agrees looks whether Decode answers as the second way does, and W4: whether Encode gives what was read.
func agrees(t *testing.T, b []byte) api.Errno {
	t.Helper()
	wanted, want := decoded(b)
	m, f := rom.Decode(b)
	if f != want || !same(m, wanted) {
		t.Fatalf("Decode(%x) = %+v, %v, want %+v, %v", b, m, f, wanted, want)
	}
	if f.Code == api.OK {
		if again, e := rom.Encode(m); e != api.OK || !bytes.Equal(again, b) {
			t.Fatalf("Encode of Decode(%x) = %x, %d", b, again, e)
		}
	}
	return f.Code
}

// P10.4: each byte of an image as each byte there is, with a sum that fits; each piece of it left out; each place with a byte put in.
func TestEachByte(t *testing.T) {
	t.Parallel()
	body := framed(richContents[:]...)
	taken := 0
	for i := range body {
		for x := range 256 {
			turned := slices.Clone(body)
			turned[i] = byte(x)
			if agrees(t, sealed(turned)) == api.OK {
				taken++
			}
		}
		agrees(t, sealed(body[:i]))
		for j := i + 1; j <= min(i+24, len(body)); j++ {
			agrees(t, sealed(slices.Delete(slices.Clone(body), i, j)))
		}
		for _, x := range []byte{0, 1, 128, 255} {
			agrees(t, sealed(slices.Insert(slices.Clone(body), i, x)))
		}
	}
	if taken < 5*len(body) {
		t.Errorf("%d taken", taken)
	}
}

// P10.4: images at random with some bytes changed, their sum fitted or not.
func TestDecodeAtRandom(t *testing.T) {
	t.Parallel()
	r := rand.New(rand.NewSource(4))
	seen := map[api.Errno]int{}
	for range 60000 {
		b := encoded(anyImage(r))
		switch r.Intn(4) {
		case 0:
			b = turned(r, b)
		case 1:
			b = turned(r, b[:20+r.Intn(10)])
		default:
			b = sealed(turned(r, bodyOf(b)))
		}
		seen[agrees(t, b)]++
	}
	for _, code := range []api.Errno{api.OK, api.ErrMagic, api.ErrVersion, api.ErrCut, api.ErrRest, api.ErrSum, api.ErrField} {
		if seen[code] < 200 {
			t.Errorf("%d answers of %d", seen[code], code)
		}
	}
}

// P10.4: whole sections with lengths that fit, but contents of any bytes.
func TestContentsAtRandom(t *testing.T) {
	t.Parallel()
	r := rand.New(rand.NewSource(5))
	seen := map[api.Errno]int{}
	for range 30000 {
		contents := littleContents
		if r.Intn(2) == 0 {
			contents = richContents
		}
		i := r.Intn(8)
		contents[i] = fmt.Sprintf("%x", turned(r, unhexed(contents[i])))
		seen[agrees(t, sealed(framed(contents[:]...)))]++
	}
	for _, code := range []api.Errno{api.OK, api.ErrCut, api.ErrRest, api.ErrField} {
		if seen[code] < 1000 {
			t.Errorf("%d answers of %d", seen[code], code)
		}
	}
}

// G1: any bytes at all, some of them with a head and a sum that fit.
func TestAnyBytes(t *testing.T) {
	t.Parallel()
	r := rand.New(rand.NewSource(6))
	for range 20000 {
		b := make([]byte, r.Intn(60))
		r.Read(b)
		agrees(t, b)
		agrees(t, sealed(b))
		agrees(t, sealed(append([]byte{1, 2, 0, 0, 0, 1, 'p', 2, byte(len(b)), 0, 0, 0}, b...)))
	}
	agrees(t, make([]byte, 1<<20))
	agrees(t, sealed(bytes.Repeat([]byte{1}, 1<<20)))
}
