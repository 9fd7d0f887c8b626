package script

import (
	"strings"

	"ingot/api"
	"ingot/hash"
)

const hexDigits = 2 // of a byte that is told by digits

// Escape tells a text as visible bytes.
func Escape(s string) string {
	var out strings.Builder
	for i := range len(s) {
		switch b := s[i]; {
		case b == '\\':
			out.WriteString(`\\`)
		case b == '\r':
			out.WriteString(`\r`)
		case b == '\n':
			out.WriteString(`\n`)
		case b >= 32 && b <= 126:
			out.WriteByte(b)
		default:
			out.WriteString(`\x` + hash.Hex([]byte{b}))
		}
	}
	return out.String()
}

// unescape tells the text whose escape s is, if it is one.
func unescape(s string) (string, bool) {
	var out strings.Builder
	for rest := s; rest != ""; {
		size, text := firstOf(rest)
		out.WriteString(text)
		rest = rest[size:]
	}
	// Each text has one escape: what else might tell it is none.
	return out.String(), Escape(out.String()) == s
}

// firstOf tells what the first bytes of an escape stand for, and how many these are. What stands for nothing stands for itself, though that is not escaped so.
func firstOf(s string) (int, string) {
	const mark = len(`\x`)
	switch {
	case strings.HasPrefix(s, `\\`):
		return mark, `\`
	case strings.HasPrefix(s, `\r`):
		return mark, "\r"
	case strings.HasPrefix(s, `\n`):
		return mark, "\n"
	case strings.HasPrefix(s, `\x`) && len(s) >= mark+hexDigits:
		if b, e := hash.Unhex(s[mark : mark+hexDigits]); e == api.OK {
			return mark + hexDigits, string(b)
		}
	}
	return 1, s[:1]
}
