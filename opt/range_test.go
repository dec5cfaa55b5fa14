package opt_test

import (
	"fmt"
	"math/rand"
	"testing"

	"junction/api"
	"junction/arith"
	"junction/opt"
)

type rangeCase struct {
	in     string
	lo, hi int32
}

func checkRanges(t *testing.T, k api.Known, list []rangeCase) {
	t.Helper()
	for _, c := range list {
		if lo, hi, e := opt.Range(exprOf(t, c.in), k); e != api.OK || lo != c.lo || hi != c.hi {
			t.Errorf("Range(%s) with %s: %d to %d, %d, want %d to %d", c.in, toldKnown(k), lo, hi, e, c.lo, c.hi)
		}
	}
}

// P9.1: the chapter's examples, and leaves.
func TestRangeOfLeaves(t *testing.T) {
	checkRanges(t, api.Known{Green: 7}, []rangeCase{
		{"x % 7", -6, 6}, {"elapsed - 5", -5, 2147483642}, {"0 - elapsed", -2147483647, 0}, {"x * 2", least, most},
		{"7", 7, 7}, {"least", least, least}, {"true", 1, 1}, {"false", 0, 0}, {"x", least, most}, {"elapsed", 0, most}, {"t", 0, most}, {"c", 0, most}, {"d", 0, 1}, {"e", 0, 1}, {"green(g0)", 0, 1}, {"red(g0)", 0, 1},
	})
	checkRanges(t, steady(5, 1, -3), []rangeCase{
		{"x", least, most}, {"y", -3, -3}, {"green(g0)", 1, 1}, {"green(g1)", 0, 0}, {"green(g2)", 1, 1}, {"red(g0)", 0, 0}, {"red(g1)", 1, 1}, {"red(g2)", 0, 0}, {"elapsed", 0, most}, {"d", 0, 1},
	})
	k := api.Known{Has: 1 << 1}
	k.Vals[0] = 5 // of no variable that is known
	checkRanges(t, k, []rangeCase{{"x", least, most}, {"y", 0, 0}})
	// A range is that of the nodes as they stand, not of what they fold to.
	checkRanges(t, api.Known{}, []rangeCase{{"x - x", least, most}, {"- -x", least, most}, {"d and not d", 0, 1}, {"x == x", 0, 1}, {"-(-5)", 5, 5}, {"3 + 4 * 5", 23, 23}, {"2147483647 + 1", least, least}})
}

// P9.1: of operators of one operand.
func TestRangeOfOne(t *testing.T) {
	checkRanges(t, api.Known{}, []rangeCase{
		{"-x", least, most}, {"-t", -most, 0}, {"-max(x, -2147483647)", -most, most}, {"-(x % 5)", -4, 4}, {"-max(min(x, 9), 3)", -9, -3}, {"-least", least, least},
		{"abs(x)", least, most}, {"abs(t)", 0, most}, {"abs(max(x, 3))", 3, most}, {"abs(0 - t)", 0, most}, {"abs(-1 - t % 5)", 1, 5}, {"abs(x % 10 - 3)", 0, 12}, {"abs(x % 10 + 3)", 0, 12}, {"abs(max(x, -2147483647))", 0, most}, {"abs(min(x, -1))", least, most}, {"abs(least)", least, least}, {"abs(-4)", 4, 4},
		{"not d", 0, 1}, {"not true", 0, 0}, {"not false", 1, 1}, {"not (t >= 0)", 0, 0}, {"not (t < 0)", 1, 1},
	})
}

// P9.1: of numbers of two operands.
func TestRangeOfNumbers(t *testing.T) {
	checkRanges(t, api.Known{}, []rangeCase{
		{"t + 1", least, most}, {"t % 10 + u % 5", 0, 13}, {"min(t, 2147483646) + 1", 1, most}, {"x % 3 + 7", 5, 9}, {"max(x, -2147483647) + -1", least, most - 1}, {"max(x, -2147483647) - 1", least, most - 1}, {"max(x, -2147483647) - 2", least, most}, {"max(min(x, 0), -2147483647) - 1", least, -1},
		{"t - u", -most, most}, {"t - 5", -5, 2147483642}, {"5 - t", -2147483642, 5}, {"-1 - t", least, -1}, {"-2 - t", least, most}, {"0 - x", least, most},
		{"t * 2", least, most}, {"t % 100 * 3", 0, 297}, {"x % 4 * (t % 3)", -6, 6}, {"x % 4 * (x % 3)", -6, 6}, {"t % 4 * -5", -15, 0}, {"t * 0", 0, 0}, {"x * 1", least, most}, {"x * -1", least, most}, {"t * -1", -most, 0}, {"t * u", least, most}, {"max(min(x, 9), 3) * max(min(x, -2), -4)", -36, -6},
		{"x / 0", 0, 0}, {"t / 10", 0, 214748364}, {"max(t, 25) / 10", 2, 214748364}, {"t / u", 0, most}, {"max(t, 25) / u", 0, most}, {"t / max(u, 5)", 0, most}, {"t % 9 / u", 0, 8}, {"x / 10", -214748364, 214748364}, {"x / -10", -214748364, 214748364}, {"x / 1", least, most}, {"x / -1", least, most}, {"max(x, -2147483647) / -1", -most, most}, {"t / -7", -306783378, 0}, {"x % 100 / -7", -14, 14}, {"max(min(x, -5), -17) / 4", -4, -1}, {"x % 9 / y", -8, 8}, {"t / y", -most, most}, {"x / t", least, most}, {"x / y", least, most}, {"max(min(x, 3), -20) / y", -20, 20}, {"x / least", 0, 1}, {"max(min(x, -5), -17) / y", -17, 17}, {"max(min(x, 17), 5) / y", -17, 17}, {"max(x, -2147483647) / y", -most, most},
		{"x % 0", 0, 0}, {"t % 0", 0, 0}, {"x % 1", 0, 0}, {"x % -1", 0, 0}, {"t % 5", 0, 4}, {"t % -5", 0, 4}, {"-t % 5", -4, 0}, {"-t % -5", -4, 0}, {"x % y", -most, most}, {"t % y", 0, most}, {"-t % y", -most, 0}, {"t % 3 % 5", 0, 2}, {"x % 3 % 5", -2, 2}, {"x % 7 % 5", -4, 4}, {"max(min(x, 9), -2) % 5", -2, 4}, {"max(min(x, 2), -9) % 5", -4, 2}, {"x % least", -most, most}, {"max(min(x, 9), 7) % 5", 0, 4}, {"max(min(x, -7), -9) % 5", -4, 0}, {"max(min(x, -7), -9) % y", -9, 0}, {"max(min(x, 9), 7) % y", 0, 9},
		{"min(x, 3)", least, 3}, {"max(x, 3)", 3, most}, {"min(t, -1)", -1, -1}, {"min(t, x)", least, most}, {"max(t, x)", 0, most}, {"min(t % 5, u % 9)", 0, 4}, {"max(t % 5, u % 9)", 0, 8}, {"min(max(x, 3), max(y, 5))", 3, most}, {"max(min(x, 3), min(y, 5))", least, 5},
	})
}

// P9.1: of truths.
func TestRangeOfTruths(t *testing.T) {
	checkRanges(t, api.Known{}, []rangeCase{
		{"x == y", 0, 1}, {"t == -1", 0, 0}, {"-1 == t", 0, 0}, {"t == 0", 0, 1}, {"t % 3 == 2", 0, 1}, {"t % 3 == 3", 0, 0}, {"d == e", 0, 1}, {"3 == 3", 1, 1}, {"d == false", 0, 1},
		{"x != y", 0, 1}, {"t != -1", 1, 1}, {"-1 != t", 1, 1}, {"t != 0", 0, 1}, {"t % 3 != 3", 1, 1}, {"d != true", 0, 1}, {"3 != 3", 0, 0},
		{"t < 0", 0, 0}, {"t < 1", 0, 1}, {"-1 < t", 1, 1}, {"0 < t", 0, 1}, {"t % 3 < 3", 1, 1}, {"t % 3 < 2", 0, 1}, {"x < least", 0, 0}, {"2147483647 < x", 0, 0},
		{"t <= -1", 0, 0}, {"t <= 0", 0, 1}, {"0 <= t", 1, 1}, {"1 <= t", 0, 1}, {"t % 3 <= 2", 1, 1}, {"t % 3 <= 1", 0, 1}, {"x <= 2147483647", 1, 1}, {"least <= x", 1, 1},
		{"0 > t", 0, 0}, {"1 > t", 0, 1}, {"t > -1", 1, 1}, {"t > 0", 0, 1}, {"3 > t % 3", 1, 1}, {"least > x", 0, 0},
		{"-1 >= t", 0, 0}, {"0 >= t", 0, 1}, {"t >= 0", 1, 1}, {"t >= 1", 0, 1}, {"2 >= t % 3", 1, 1}, {"x >= least", 1, 1},
		{"d and e", 0, 1}, {"d and false", 0, 0}, {"false and d", 0, 0}, {"d and true", 0, 1}, {"t >= 0 and true", 1, 1}, {"t < 0 and d", 0, 0},
		{"d or e", 0, 1}, {"d or true", 1, 1}, {"true or d", 1, 1}, {"d or false", 0, 1}, {"t >= 0 or d", 1, 1}, {"t < 0 or false", 0, 0},
	})
}

// edgeRanges are ranges whose ends are edges.
func edgeRanges() []ends {
	edges := []int64{least, least + 1, -65536, -7, -2, -1, 0, 1, 2, 7, 65536, most - 1, most}
	var list []ends
	for i, lo := range edges {
		for _, hi := range edges[i:] {
			list = append(list, ends{lo, hi})
		}
	}
	return list
}

// P9.1, P9.6: of each operator over all pairs of ranges at the edges: as the second way says, and each value within.
func TestRangesAtTheEdges(t *testing.T) {
	t.Parallel()
	r := rand.New(rand.NewSource(91))
	for _, a := range edgeRanges() {
		e := within(0, a[0], a[1])
		for _, op := range []int{api.OpNeg, api.OpAbs} {
			got := rangeAsModel(t, over(op, e))
			for _, x := range samples(r, a) {
				w, _ := arith.Unary(op, x)
				if int64(w) < got[0] || int64(w) > got[1] {
					t.Fatalf("%s of %d, of %v: %d is not in %v", signs[op], x, a, w, got)
				}
			}
		}
		for _, b := range edgeRanges() {
			edgePair(t, r, e, a, b)
		}
	}
}

func edgePair(t *testing.T, r *rand.Rand, e []api.Node, a, b ends) {
	t.Helper()
	for op := api.OpAdd; op <= api.OpGe; op++ {
		if signs[op] == "" {
			continue
		}
		got := rangeAsModel(t, over(op, e, within(1, b[0], b[1])))
		for _, x := range samples(r, a) {
			for _, y := range samples(r, b) {
				w, _ := arith.Binary(op, x, y)
				if int64(w) < got[0] || int64(w) > got[1] {
					t.Fatalf("%s of %d and %d, of %v and %v: %d is not in %v", signs[op], x, y, a, b, w, got)
				}
			}
		}
	}
}

// samples are some words of a range, its ends among them.
func samples(r *rand.Rand, a ends) []int32 {
	list := []int32{int32(a[0]), int32(a[1]), int32(a[0] + r.Int63n(a[1]-a[0]+1))}
	for _, n := range []int64{-1, 0, 1} {
		if a[0] <= n && n <= a[1] {
			list = append(list, int32(n))
		}
	}
	return list
}

func rangeAsModel(t *testing.T, e []api.Node) ends {
	t.Helper()
	lo, hi, f := opt.Range(e, api.Known{})
	got := ends{int64(lo), int64(hi)}
	if want := modelRange(e, api.Known{}); f != api.OK || got != want {
		t.Fatalf("Range(%s): %v, %d, want %v", told(e), got, f, want)
	}
	return got
}

// P9.1: all truths of all ranges of truths.
func TestRangesOfTruths(t *testing.T) {
	texts := map[string]ends{"false": {0, 0}, "true": {1, 1}, "d": {0, 1}, "t < 0": {0, 0}, "t >= 0": {1, 1}, "x < y": {0, 1}}
	for p, a := range texts {
		for q, b := range texts {
			for _, sign := range []string{"and", "or", "==", "!="} {
				in := fmt.Sprintf("(%s) %s (%s)", p, sign, q)
				var got ends = [2]int64{1, 0}
				for x := a[0]; x <= a[1]; x++ {
					for y := b[0]; y <= b[1]; y++ {
						w := map[string]bool{"and": x == 1 && y == 1, "or": x == 1 || y == 1, "==": x == y, "!=": x != y}[sign]
						n := map[bool]int64{false: 0, true: 1}[w]
						got = ends{min(got[0], n), max(got[1], n)}
					}
				}
				checkRanges(t, api.Known{}, []rangeCase{{in, int32(got[0]), int32(got[1])}})
			}
		}
	}
}
