package arith

import (
	"math/bits"

	"junction/api"
)

// Members are the bits of a mask that are 1, rising.
func Members(mask uint64) []int {
	list := make([]int, 0, bits.OnesCount64(mask))
	for mask != 0 {
		list = append(list, bits.TrailingZeros64(mask))
		mask &= mask - 1
	}
	return list
}

// Mask is the mask of a list of members.
func Mask(list []int) (uint64, api.Errno) {
	var mask uint64
	for _, n := range list {
		if n < 0 || n > 63 {
			return 0, api.ErrMember
		}
		bit := uint64(1) << n
		if mask&bit != 0 {
			return 0, api.ErrMember
		}
		mask |= bit
	}
	return mask, api.OK
}
