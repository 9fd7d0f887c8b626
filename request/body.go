package request

import (
	"strconv"

	"ingot/api"
)

// A place is where among the chunks of a body a reader is.
type place int

const (
	atSize  place = iota // ahead of a chunk's line
	atBytes              // within its bytes
	atGap                // ahead of the empty line behind them
)

const mostSize = 6 // bytes of a chunk's line with its end

// beginBody finds out of the head how the body comes, and reads on.
func (r *Reader) beginBody() bool {
	length, lengths := r.header("content-length")
	coding, codings := r.header("transfer-encoding")
	size, isSize := number(length)
	switch {
	case lengths+codings > 1:
		return r.giveUp(badRequest)
	case codings == 1 && coding != "chunked", lengths == 1 && !isSize:
		return r.giveUp(badRequest)
	case size > api.MaxBody:
		return r.giveUp(bodyTooLong)
	case codings == 1:
		r.next = r.readChunks
	default:
		r.upTo, r.next = size, r.readBytes
	}
	return r.next()
}

// number reads digits. Of all numbers above MaxBody it tells the same one above it: they are too great, however many digits they have.
func number(s string) (n int, is bool) {
	if s == "" || !all(s, isDigit) {
		return 0, false
	}
	for i := range len(s) {
		n = min(10*n+int(s[i]-'0'), api.MaxBody+1)
	}
	return n, true
}

func (r *Reader) readBytes() bool {
	n := min(r.upTo-len(r.body), len(r.rest))
	r.body = append(r.body, r.take(n)...)
	return len(r.body) == r.upTo
}

// readChunks goes from place to place, chunk by chunk, up to the end of the last one.
func (r *Reader) readChunks() bool {
	for {
		switch r.chunk {
		case atSize:
			if !r.readSize() {
				return false
			}
			r.chunk = atBytes
			fallthrough
		case atBytes:
			if !r.readBytes() {
				return false
			}
			r.chunk = atGap
			fallthrough
		case atGap:
			if !r.readGap() {
				return false
			}
			if r.last {
				return true
			}
			r.chunk = atSize
		}
	}
}

func (r *Reader) readSize() bool {
	line, is := r.line(mostSize)
	if !is {
		if len(r.rest) >= mostSize {
			return r.giveUp(badRequest)
		}
		return false
	}
	size, err := strconv.ParseUint(line, 16, 16)
	if err != nil {
		return r.giveUp(badRequest)
	}
	r.upTo, r.last = len(r.body)+int(size), size == 0
	if r.upTo > api.MaxBody {
		return r.giveUp(bodyTooLong)
	}
	return true
}

// readGap reads the end of a chunk; two bytes tell whether it is one.
func (r *Reader) readGap() bool {
	if len(r.rest) < len(lineEnd) {
		return false
	}
	if string(r.take(len(lineEnd))) != lineEnd {
		return r.giveUp(badRequest)
	}
	return true
}
