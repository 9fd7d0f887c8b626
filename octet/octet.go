// Package octet writes numbers and texts as bytes, and reads them. See shared/doc/01-octet.md.
package octet

import (
	"math/bits"

	"ingot/api"
)

const (
	groupBits = 7              // bits of a number that stand in one byte
	more      = 1 << groupBits // the bit that all bytes of a number have but its last one
	mostBytes = 10             // bytes of the greatest number
	mostLast  = 1              // what is left for the tenth byte behind nine groups of 64 bits
)

// Put puts a number behind bytes.
func Put(b []byte, n uint64) []byte {
	return appendNumber(copyWithRoom(b, numberSize(n)), n)
}

// PutText puts a text behind bytes.
func PutText(b []byte, s string) []byte {
	n := uint64(len(s))
	out := appendNumber(copyWithRoom(b, numberSize(n)+len(s)), n)
	return append(out, s...)
}

// copyWithRoom copies b, as the spare room behind b belongs to whoever handed it in.
func copyWithRoom(b []byte, room int) []byte {
	out := make([]byte, len(b), len(b)+room)
	copy(out, b)
	return out
}

func numberSize(n uint64) int {
	return max(1, (bits.Len64(n)+groupBits-1)/groupBits)
}

func appendNumber(b []byte, n uint64) []byte {
	for range numberSize(n) - 1 {
		b = append(b, byte(n)|more)
		n >>= groupBits
	}
	return append(b, byte(n))
}

// Reader reads bytes from their beginning.
type Reader struct {
	place
	made bool
}

// Over makes a reader of bytes.
func Over(b []byte) *Reader {
	return &Reader{place: place{bytes: copyWithRoom(b, 0)}, made: true}
}

func (r *Reader) isMade() bool { return r != nil && r.made }

// Uint reads a number.
func (r *Reader) Uint() (uint64, api.Errno) {
	if !r.isMade() {
		return 0, api.ErrNil
	}
	n, size, e := r.number()
	if e != api.OK {
		return 0, e
	}
	r.take(size)
	return n, api.OK
}

// Text reads a text of at most so many bytes.
func (r *Reader) Text(most int) (string, api.Errno) {
	if !r.isMade() {
		return "", api.ErrNil
	}
	n, size, e := r.number()
	if e != api.OK {
		return "", e
	}
	if n > uint64(max(most, 0)) {
		return "", api.ErrLong
	}
	if n > uint64(r.left()-size) {
		return "", api.ErrShort
	}
	r.take(size)
	return string(r.take(int(n))), api.OK
}

// Byte reads a byte.
func (r *Reader) Byte() (byte, api.Errno) {
	if !r.isMade() {
		return 0, api.ErrNil
	}
	if r.left() == 0 {
		return 0, api.ErrShort
	}
	return r.take(1)[0], api.OK
}

// Left tells how many bytes are left.
func (r *Reader) Left() int {
	if !r.isMade() {
		return 0
	}
	return r.left()
}

// End tells whether all was read.
func (r *Reader) End() api.Errno {
	if !r.isMade() {
		return api.ErrNil
	}
	if r.left() > 0 {
		return api.ErrRest
	}
	return api.OK
}
