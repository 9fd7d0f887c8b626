package names

import "ingot/api"

// uses says, bit by bit, where a byte may stand.
type uses int

const (
	inPart uses = 1 << iota
	inName
	firstInName
)

// usesOf falls from each kind of bytes into the next one, as what may stand in the narrower place may stand in all wider ones.
func usesOf(c byte) uses {
	var u uses
	switch {
	case 'a' <= c && c <= 'z':
		u |= firstInName
		fallthrough
	case '0' <= c && c <= '9', c == '-':
		u |= inName
		fallthrough
	case c == '.', c == '_':
		u |= inPart
	}
	return u
}

// isWord tells whether a text is as long as a name may be, and all its bytes have that use.
func isWord(s string, use uses) bool {
	if len(s) < 1 || len(s) > api.MaxName {
		return false
	}
	for i := range len(s) {
		if usesOf(s[i])&use == 0 {
			return false
		}
	}
	return true
}
