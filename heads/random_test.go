package heads_test

import (
	"math"
	"math/rand"
	"slices"
	"testing"

	"junction/api"
	"junction/heads"
)

// P7.3, P7.4: against the second way, from any sound heads.
func TestStepAtRandom(t *testing.T) {
	t.Parallel()
	r := rand.New(rand.NewSource(73))
	changes, open, settled := map[[2]byte]int{}, map[bool]int{}, map[bool]int{}
	for range 30000 {
		x := anyTables(r, pick(r, 0, 1, 2, 3, 5, 8), r.Intn(2) == 0)
		h, want := anyHeads(r, x), anyMask(r, x, r.Intn(2) == 0)
		if r.Intn(4) == 0 {
			want = greens(h) // what is settled now and then
		}
		n, e := heads.Step(x, h, want)
		if m := modelStep(x, h, want); e != api.OK || !same(n, m) {
			t.Fatalf("%v, %d, want %v: %x from %v in %+v", n, e, m, want, h, x)
		}
		if !heads.Sound(x, n) {
			t.Fatalf("%v is not sound: %x from %v in %+v", n, want, h, x)
		}
		for g := range x.Groups {
			changes[[2]byte{heads.Show(h)[g], heads.Show(n)[g]}]++
		}
		gate, done := heads.Gate(x, h, want), heads.Settled(x, h, want)
		if gate != modelGate(x, h, want) || done != modelSettled(x, h, want) {
			t.Fatalf("Gate is %v, Settled is %v: %x of %v in %+v", gate, done, want, h, x)
		}
		open[gate]++
		settled[done]++
	}
	for _, pair := range []string{"rr", "rl", "rg", "ll", "lg", "gg", "ga", "gr", "aa", "ar"} {
		if n := changes[[2]byte([]byte(pair))]; n < 500 {
			t.Errorf("only %d of %s", n, pair)
		}
	}
	if len(changes) != 10 || min(open[false], open[true], settled[false], settled[true]) < 1000 {
		t.Errorf("%v, %v, %v", changes, open, settled)
	}
}

func greens(h api.Heads) uint64 {
	var mask uint64
	for g, aspect := range h.Aspect {
		if aspect == api.Green {
			mask |= 1 << g
		}
	}
	return mask
}

// spoilt are sound heads of which a number or two are another, or a list is longer or shorter.
func spoilt(r *rand.Rand, h api.Heads) api.Heads {
	for range 1 + r.Intn(2) {
		count := pick[int32](r, -1, 0, 1, 2, 3, 4, 60, 61, math.MinInt32, math.MaxInt32)
		g := r.Intn(max(len(h.Aspect), 1))
		switch kind := r.Intn(7); {
		case kind == 0:
			h.Aspect = append(h.Aspect, 0)
		case kind == 1:
			h.In = append(h.In, 1)
		case kind == 2:
			h.Away = h.Away[:len(h.Away)-min(1, len(h.Away))]
		case kind == 3 && g < len(h.In):
			h.In[g] = count
		case kind == 4 && g < len(h.Away):
			h.Away[g] = count
		case g < len(h.Aspect):
			h.Aspect[g] = pick(r, -1, 0, 1, 2, 3, 4, math.MinInt, math.MaxInt)
		}
	}
	return h
}

// P7.2: against the second way, of heads that are nearly sound; and P7.3: just those that are not sound are refused.
func TestSoundAtRandom(t *testing.T) {
	t.Parallel()
	r := rand.New(rand.NewSource(72))
	var seen [2]int
	for range 40000 {
		x := anyTables(r, r.Intn(5), r.Intn(2) == 0)
		h := spoilt(r, anyHeads(r, x))
		ok := modelSound(x, h)
		if heads.Sound(x, h) != ok {
			t.Fatalf("Sound is not %v of %v in %+v", ok, h, x)
		}
		want := r.Uint64()
		n, e := heads.Step(x, h, want)
		if ok {
			seen[1]++
			if m := modelStep(x, h, want); e != api.OK || !same(n, m) {
				t.Fatalf("%v, %d, want %v: %x from %v in %+v", n, e, m, want, h, x)
			}
			continue
		}
		seen[0]++
		if e != api.ErrHeads || !isEmpty(n) || heads.Gate(x, h, want) || heads.Settled(x, h, want) {
			t.Fatalf("%v, %d of %v in %+v", n, e, h, x)
		}
	}
	if min(seen[0], seen[1]) < 5000 {
		t.Errorf("%v", seen)
	}
}

// P7.6: Run is Start, Step and Show; and what they are by the second way.
func TestRunAtRandom(t *testing.T) {
	t.Parallel()
	r := rand.New(rand.NewSource(76))
	for range 1500 {
		x := anyTables(r, pick(r, 0, 1, 2, 3, 5, 8, 20), r.Intn(4) > 0)
		wants := anyWants(r, x, r.Intn(60))
		list, e := heads.Run(x, wants)
		h, f := heads.Start(x)
		model := h
		steps := []string{heads.Show(h)}
		others := []string{modelShow(h)}
		for _, want := range wants {
			h, _ = heads.Step(x, h, want)
			model = modelStep(x, model, want)
			steps, others = append(steps, heads.Show(h)), append(others, modelShow(model))
		}
		if e != api.OK || f != api.OK || !slices.Equal(list, steps) || !slices.Equal(list, others) {
			t.Fatalf("%v, %d, want %v and %v: %x in %+v", list, e, steps, others, wants, x)
		}
	}
}
