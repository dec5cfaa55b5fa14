package wire

// polynomial is 0x1021 with its bits turned round, as the lowest bit of a byte comes first.
const polynomial = 0x8408

// sums are what each byte does to a sum. Nothing writes to them behind init.
var sums [256]uint16

func init() {
	for i := range sums {
		sum := uint16(i)
		for range 8 {
			sum = sum>>1 ^ (sum&1)*polynomial
		}
		sums[i] = sum
	}
}

// Sum16 is the CRC-16 of bytes.
func Sum16(b []byte) uint16 {
	sum := ^uint16(0)
	for _, x := range b {
		sum = sum>>8 ^ sums[byte(sum)^x]
	}
	return ^sum
}
