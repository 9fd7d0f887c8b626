package frame

const (
	allOnes = 0xffffffff
	turned  = 0xedb88320 // what CRC-32 divides by, its lowest bit ahead
)

// Sum tells bytes' sum.
func Sum(b []byte) uint32 {
	word := uint32(allOnes)
	for _, c := range b {
		word ^= uint32(c)
		for range 8 {
			// No branch, as the bit that falls out is anyone's guess: its negative is all ones, or noughts.
			fell := -(word & 1)
			word = word>>1 ^ turned&fell
		}
	}
	return word ^ allOnes
}

// isSum tells whether bytes have the sum that the others begin with, of which the caller knows that they are enough.
func isSum(b, sum []byte) bool { return Sum(b) == number(sum) }

// number reads the number that bytes begin with, the highest byte ahead.
func number(b []byte) uint32 {
	var n uint32
	for i := range numberSize {
		n = n<<8 | uint32(b[i])
	}
	return n
}

func appendNumber(b []byte, n uint32) []byte {
	for i := range numberSize {
		b = append(b, byte(n>>(8*(numberSize-1-i))))
	}
	return b
}
