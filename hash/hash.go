// Package hash reckons SHA-256 digests. See shared/doc/02-hash.md.
package hash

import "ingot/api"

const (
	blockSize  = 64 // bytes of a block
	lengthSize = 8  // bytes that tell a message's bits
	mark       = 0x80
)

// Sum tells the digest of bytes.
func Sum(b []byte) api.Hash {
	d := New()
	d.Write(b)
	return d.Sum()
}

// Digest takes bytes piece by piece.
type Digest struct {
	made   bool
	state  state
	tail   [blockSize]byte // what was written behind the last whole block
	length uint64
}

// New makes one that has nothing.
func New() *Digest { return &Digest{made: true, state: start} }

func (d *Digest) isMade() bool { return d != nil && d.made }

// Write puts bytes behind.
func (d *Digest) Write(b []byte) api.Errno {
	if !d.isMade() {
		return api.ErrNil
	}
	for len(b) > 0 {
		n := copy(d.tail[d.length%blockSize:], b)
		b = b[n:]
		d.length += uint64(n)
		if d.length%blockSize == 0 {
			d.state = d.state.after(wordsOf(d.tail))
		}
	}
	return api.OK
}

// Sum tells the digest of all that was written.
func (d *Digest) Sum() api.Hash {
	if !d.isMade() {
		return api.Hash{}
	}
	// The message's end goes to a copy, so that writing may go on.
	whole := *d
	whole.Write(ending(d.length))
	return whole.state.bytes()
}

// Clone tells one that has the same.
func (d *Digest) Clone() *Digest {
	if !d.isMade() {
		return nil
	}
	other := *d
	return &other
}

// ending tells what follows a message of so many bytes: the mark, noughts up to where the length ends a block, and the length in bits.
func ending(length uint64) []byte {
	const beforeLength = blockSize - lengthSize
	noughts := (blockSize + beforeLength - 1 - length%blockSize) % blockSize
	out := make([]byte, 1+noughts+lengthSize)
	out[0] = mark
	for i := range lengthSize {
		out[len(out)-1-i] = byte(length * 8 >> (8 * i))
	}
	return out
}
