package load_test

import (
	"bytes"
	"math/rand"
	"testing"

	"junction/api"
	"junction/load"
	"junction/rom"
)

// P12.3: the image of bytes in which nothing is wrong.
func TestLoad(t *testing.T) {
	t.Parallel()
	for _, m := range []api.Image{
		plain("end; end; end"),
		rich("end; end; end"),
		rich("small 1, const 4, add, store 3, end; det 5, andjump 8, green 6, if 10, pick 1, end; end; end; end; end"),
		generated(t, resolved(t, smallPlan)),
	} {
		got, f := load.Load(encoded(t, m))
		if f != (api.Fault{}) || !same(got, m) {
			t.Errorf("%s: %v, %+v", told(m), f, got)
		}
	}
}

// P12.3: Decode's fault, and nothing beside it.
func TestLoadOfOtherBytes(t *testing.T) {
	t.Parallel()
	good := encoded(t, rich("small 1, store 0, end; end; end"))
	changed := func(i int, to byte) []byte {
		b := bytes.Clone(good)
		b[i] = to
		return b
	}
	// summed is with the sum that the bytes ahead of it have.
	summed := func(b []byte) []byte {
		s := rom.Sum(b[:len(b)-4])
		return append(b[:len(b)-4], byte(s), byte(s>>8), byte(s>>16), byte(s>>24))
	}
	n := len(good)
	for _, c := range []struct {
		name string
		b    []byte
		want api.Fault
	}{
		{"nothing", nil, at(api.ErrCut, 0)},
		{"no bytes", []byte{}, at(api.ErrCut, 0)},
		{"another magic", []byte("JSQ"), at(api.ErrMagic, 2)},
		{"half the magic", []byte("JSP"), at(api.ErrCut, 3)},
		{"the last byte is missing", good[:n-1], at(api.ErrCut, n-1)},
		{"one byte more", append(bytes.Clone(good), 0), at(api.ErrRest, n)},
		{"another version", changed(4, 2), at(api.ErrVersion, 4)},
		{"another sum", changed(n-1, good[n-1]^1), at(api.ErrSum, n-4)},
		{"one bit in a section", changed(20, good[20]^16), at(api.ErrSum, n-4)},
		{"another section", summed(changed(10, 2)), at(api.ErrField, 10)},
		{"no instruction", summed(changed(n-5, 127)), at(api.ErrField, n-5)},
	} {
		m, f := load.Load(c.b)
		if f != c.want || !same(m, api.Image{}) {
			t.Errorf("%s: %v, %+v, want %v", c.name, f, m, c.want)
		}
	}
}

// P12.3: Verify's fault, and nothing beside it.
func TestLoadOfWhatIsWrong(t *testing.T) {
	t.Parallel()
	for _, c := range []row{
		{"truth 1, store 0, end; end; end", api.ErrSort, 1},
		{"small 1, end; end; end", api.ErrStack, 1},
		{"end, end; end; end", api.ErrDead, 1},
		{"run 0; end; end", api.ErrEnd, 0},
		{"run 2, end; end; end", api.ErrIndex, 0},
		{"jump 0, end; end; end", api.ErrJump, 0},
		{"truth 1, andjump 2, end; end; end", api.ErrJoin2, 1},
		{"pick 0; end; end", api.ErrPick, 0},
	} {
		m, f := load.Load(encoded(t, rich(c.code)))
		if f != at(c.want, c.place) || !same(m, api.Image{}) {
			t.Errorf("%s: %v, %+v, want %d at %d", c.code, f, m, c.want, c.place)
		}
	}
	wrong := rich("end; end; end")
	wrong.Slots[0].Enter = 7
	if m, f := load.Load(encoded(t, wrong)); f != at(api.ErrSection, 7) || !same(m, api.Image{}) {
		t.Errorf("an entry that is not 0: %v, %+v", f, m)
	}
}

// P12.3: each bit of an image's bytes counts.
func TestLoadWithABitTurned(t *testing.T) {
	t.Parallel()
	b := encoded(t, generated(t, resolved(t, smallPlan)))
	for i := range b {
		for bit := range 8 {
			b[i] ^= 1 << bit
			_, want := rom.Decode(b)
			if m, f := load.Load(b); f == (api.Fault{}) || f != want || !same(m, api.Image{}) {
				t.Fatalf("byte %d, bit %d: %v, want %v", i, bit, f, want)
			}
			b[i] ^= 1 << bit
		}
	}
}

// P12.3: bytes of images at random, with something wrong or not.
func TestLoadAtRandom(t *testing.T) {
	t.Parallel()
	r := rand.New(rand.NewSource(2))
	taken, refused := 0, 0
	for range 3000 {
		m := anyWild(r)
		for range r.Intn(3) {
			m = twisted(r, m)
		}
		b, errno := rom.Encode(m)
		if errno != api.OK {
			continue
		}
		got, f := load.Load(b)
		switch want := model(m); {
		case f != want:
			t.Fatalf("%s: %v, want %v", told(m), f, want)
		case f == (api.Fault{}):
			taken++
			if !same(got, m) {
				t.Fatalf("%s is read as %s", told(m), told(got))
			}
		default:
			refused++
			if !same(got, api.Image{}) {
				t.Fatalf("%s: %v and an image", told(m), f)
			}
		}
	}
	if taken < 500 || refused < 500 {
		t.Errorf("%d taken, %d refused", taken, refused)
	}
}
