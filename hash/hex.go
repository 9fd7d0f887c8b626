package hash

import "ingot/api"

const digits = "0123456789abcdef"

// Hex tells bytes to the base 16.
func Hex(b []byte) string {
	out := make([]byte, 0, 2*len(b))
	for _, c := range b {
		out = append(out, digits[c>>4], digits[c&15])
	}
	return string(out)
}

// Unhex reads them.
func Unhex(s string) ([]byte, api.Errno) {
	if len(s)%2 != 0 {
		return nil, api.ErrText
	}
	out := make([]byte, 0, len(s)/2)
	for i := range len(s) / 2 {
		high, okHigh := digitValue(s[2*i])
		low, okLow := digitValue(s[2*i+1])
		if !okHigh || !okLow {
			return nil, api.ErrText
		}
		out = append(out, high<<4|low)
	}
	return out, api.OK
}

func digitValue(c byte) (byte, bool) {
	switch {
	case '0' <= c && c <= '9':
		return c - '0', true
	case 'a' <= c && c <= 'f':
		return c - 'a' + 10, true
	}
	return 0, false
}

// Equal tells whether two have the same bytes.
func Equal(a, b []byte) bool {
	if len(a) != len(b) {
		return false
	}
	// All bytes are looked at, so that the time it takes does not tell where two secrets part.
	var differ byte
	for i := range len(a) {
		differ |= a[i] ^ b[i]
	}
	return differ == 0
}
