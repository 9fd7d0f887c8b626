package token

import (
	"strconv"
	"strings"

	"ingot/api"
	"ingot/hash"
	"ingot/mac"
)

const point = "." // what stands between two parts of a token

// write tells a token's text.
func (b *Book) write(number int, user string, until int) string {
	body := strconv.Itoa(number) + point + user + point + strconv.Itoa(until)
	tag := mac.Tag(b.secret, []byte(body))
	return body + point + hash.Hex(tag[:])
}

// wrote tells whether a text ends with the book's own tag of what stands ahead of it.
func (b *Book) wrote(text string) bool {
	at := strings.LastIndex(text, point)
	if at < 0 {
		return false
	}
	tag, e := hash.Unhex(text[at+len(point):])
	return e == api.OK && mac.Check(b.secret, []byte(text[:at]), tag)
}

// find tells what a token stands for. The map's own comparison ends at the first byte that differs, and so tells by its time how much of a token was guessed; what the book's secret did not make is therefore held off by a comparison that looks at all bytes, ahead of it.
func (b *Book) find(text string, same func(*Book, string) bool) (grant, api.Errno) {
	if !same(b, text) {
		return grant{}, api.ErrToken
	}
	g, is := b.given[text]
	if !is {
		return grant{}, api.ErrToken
	}
	return g, api.OK
}
