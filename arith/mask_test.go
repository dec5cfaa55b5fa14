package arith_test

import (
	"math"
	"slices"
	"testing"

	"junction/api"
	"junction/arith"
)

// upTo: the numbers from 0 on, below n.
func upTo(n int) []int {
	list := []int{}
	for i := range n {
		list = append(list, i)
	}
	return list
}

// P1.8
func TestMembers(t *testing.T) {
	for _, c := range []struct {
		mask uint64
		want []int
	}{
		{0, nil}, {1, []int{0}}, {5, []int{0, 2}}, {33, []int{0, 5}}, {1<<63 + 5, []int{0, 2, 63}}, {1 << 31, []int{31}}, {1 << 32, []int{32}}, {1<<32 + 1<<31, []int{31, 32}},
		{math.MaxUint64, upTo(64)}, {math.MaxUint64 >> 1, upTo(63)},
	} {
		if got := arith.Members(c.mask); !slices.Equal(got, c.want) {
			t.Errorf("Members(%x) = %v, want %v", c.mask, got, c.want)
		}
	}
}

// P1.8: what is answered once does not change by what is done to another answer.
func TestMembersAreNewMemory(t *testing.T) {
	for _, mask := range []uint64{0, 1, 5, math.MaxUint64} {
		first := arith.Members(mask)
		want := slices.Clone(first)
		second := arith.Members(mask)
		for i := range second[:cap(second)] {
			second[:cap(second)][i] = 99
		}
		_ = append(second, 77)
		if !slices.Equal(first, want) || !slices.Equal(arith.Members(mask), want) {
			t.Errorf("Members(%x) changed", mask)
		}
	}
}

// P1.8
func TestMask(t *testing.T) {
	for _, c := range []struct {
		list []int
		want uint64
	}{
		{nil, 0}, {[]int{}, 0}, {[]int{0}, 1}, {[]int{5, 0}, 33}, {[]int{0, 5}, 33}, {[]int{63}, 1 << 63}, {[]int{31, 32}, 1<<32 + 1<<31}, {[]int{63, 2, 0}, 1<<63 + 5}, {upTo(64), math.MaxUint64},
	} {
		if got, e := arith.Mask(c.list); got != c.want || e != api.OK {
			t.Errorf("Mask(%v) = %x, %d, want %x", c.list, got, e, c.want)
		}
	}
}

// P1.8
func TestMaskRefusals(t *testing.T) {
	for _, list := range [][]int{
		{-1}, {64}, {math.MinInt}, {math.MaxInt}, {1 << 32}, {-64}, {256}, {1, 1}, {0, 0}, {63, 63}, {3, 2, 3}, {0, 1, 2, 64}, {-1, 0, 1}, {0, 1, 2, 3, 0}, append(upTo(64), 0), append(upTo(64), 63), upTo(65), make([]int, 1000),
	} {
		if got, e := arith.Mask(list); got != 0 || e != api.ErrMember {
			t.Errorf("Mask(%v) = %x, %d, want ErrMember", list, got, e)
		}
	}
}

// P1.8: the list that is handed in stays as it is, an unsorted and a refused one too.
func TestMaskLeavesItsList(t *testing.T) {
	for _, list := range [][]int{{9, 3, 40, 0}, {9, 3, 9, 0}, {9, 64, 3}} {
		before := slices.Clone(list)
		arith.Mask(list)
		if !slices.Equal(list, before) {
			t.Errorf("Mask made %v of %v", list, before)
		}
	}
}

// P1.8: each takes back what the other does.
func TestMaskAndMembers(t *testing.T) {
	mask := uint64(1)
	for range 2000 {
		mask = mask*6364136223846793005 + 1442695040888963407
		list := arith.Members(mask)
		if !slices.IsSorted(list) {
			t.Fatalf("Members(%x) = %v", mask, list)
		}
		slices.Reverse(list)
		if back, e := arith.Mask(list); back != mask || e != api.OK {
			t.Fatalf("Mask of the members of %x = %x, %d", mask, back, e)
		}
	}
}
