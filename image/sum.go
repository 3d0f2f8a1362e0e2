package image

// sumSize is how many bytes a check sum has.
const sumSize = 4

// What a check sum begins and ends with, and what an odd one is changed by.
const (
	allOnes = 1<<32 - 1
	turning = 0xedb88320
)

// sumOf is the check sum of bytes, as it stands behind them.
func sumOf(b []byte) [sumSize]byte {
	changes := byteChanges()
	var c uint32 = allOnes
	for _, x := range b {
		c = c>>8 ^ changes[byte(c)^x]
	}
	c ^= allOnes
	return [sumSize]byte{byte(c), byte(c >> 8), byte(c >> 16), byte(c >> 24)}
}

// byteChanges is by what a sum is changed in eight steps, for each lowest byte that it may have: steps change bits alone, so those of a byte and those of the rest can be told apart.
func byteChanges() [256]uint32 {
	var changes [256]uint32
	for i := range changes {
		c := uint32(i)
		for range 8 {
			isOdd := c%2 == 1
			c /= 2
			if isOdd {
				c ^= turning
			}
		}
		changes[i] = c
	}
	return changes
}
