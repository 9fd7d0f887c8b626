package fields

const digits = "0123456789ABCDEF"

func isPlain(b byte) bool {
	switch {
	case 'a' <= b && b <= 'z', 'A' <= b && b <= 'Z', '0' <= b && b <= '9':
		return true
	case b == '-', b == '.', b == '_', b == '~':
		return true
	}
	return false
}

func appendEscape(out []byte, b byte) []byte {
	switch {
	case b == ' ':
		b = '+'
		fallthrough // what stands for a blank is written as plain bytes are
	case isPlain(b):
		return append(out, b)
	}
	return append(out, '%', digits[b>>4], digits[b&15])
}

// digitOf tells what a digit to the base 16 is worth. It falls from each kind of digits into the next one, onto which it is moved.
func digitOf(b byte) (byte, bool) {
	switch {
	case 'a' <= b && b <= 'f':
		b -= 'a' - 'A'
		fallthrough
	case 'A' <= b && b <= 'F':
		b -= 'A' - ('9' + 1)
		fallthrough
	case '0' <= b && b <= '9':
		return b - '0', true
	}
	return 0, false
}
