package driver

import (
	"slices"
	"strconv"
	"strings"

	"junction/api"
)

// maxBits is how many hexadecimal digits a mask has at most.
const maxBits = 16

// Inputs reads the detectors' bits of some ticks.
func Inputs(text string) ([]uint64, api.Errno) {
	var list []uint64
	for word := range strings.FieldsFuncSeq(text, isBlank) {
		count, mask, ok := readWord(word)
		if !ok || count > api.MaxTicks-len(list) {
			return nil, api.ErrInputs
		}
		list = append(list, slices.Repeat([]uint64{mask}, count)...)
	}
	return list, api.OK
}

// isBlank knows fewer blanks than unicode does.
func isBlank(r rune) bool { return r == ' ' || r == '\t' || r == '\n' || r == '\r' }

// readWord is for how many ticks a word has its mask.
func readWord(word string) (count int, mask uint64, ok bool) {
	times, bits, more := strings.Cut(word, "*")
	if !more {
		times, bits = "1", word
	}
	n, err := strconv.ParseUint(times, 10, 31)
	if err != nil || n < 1 || len(bits) > maxBits {
		return 0, 0, false
	}
	mask, err = strconv.ParseUint(bits, 16, 64)
	return int(n), mask, err == nil
}
