package wal

import (
	"bytes"

	"ingot/api"
	"ingot/frame"
)

const (
	rootMark       = 0x52
	logMark        = 0x4c
	checkpointMark = 0x43

	roots      = 2       // sectors ahead of the ring
	most       = 1 << 48 // the greatest number of a sector, of an epoch, of a root
	numberSize = 8
	sumSize    = 4
	sumAt      = api.SectorSize - sumSize

	// Where a log sector has what stands behind its number and its epoch.
	lastAt = 1 + 2*numberSize
	usedAt = lastAt + 1
	loadAt = usedAt + 1
)

// root is where a log starts. One of serial number 0 is none.
type root struct{ serial, epoch, start, floor int }

func (r root) stands() int { return r.serial % roots }

func (r root) bytes() []byte {
	b := []byte{rootMark}
	for _, n := range [...]int{r.serial, r.epoch, r.start, r.floor} {
		b = appendNumber(b, n)
	}
	return sealed(b)
}

// rootOf reads the root that a sector of the disk has.
func rootOf(at int, b []byte) (root, bool) {
	r := root{numberAt(b, 0), numberAt(b, 1), numberAt(b, 2), numberAt(b, 3)}
	inRange := min(r.serial, r.epoch, r.start, r.floor) > 0
	if !inRange || r.stands() != at || r.floor > r.epoch || !bytes.Equal(r.bytes(), b) {
		return root{}, false
	}
	return r, true
}

// opened is the root of the next opening, with an epoch above all that the disk has.
func (r root) opened(epoch int) root {
	next := root{serial: r.serial + 1, epoch: max(r.epoch, epoch) + 1, start: r.start, floor: r.floor}
	if r.serial == 0 {
		// What lies in the ring is of lesser epochs: nothing of it is told.
		next.start, next.floor = 1, next.epoch
	}
	return next
}

// piece is a log sector. One of number 0 is none.
type piece struct {
	mark          byte
	number, epoch int
	last          bool
	load          []byte
}

func (p piece) stands(ring int) int { return roots + p.number%ring }

func (p piece) bytes() []byte {
	b := appendNumber(appendNumber([]byte{p.mark}, p.number), p.epoch)
	b = append(b, 0, byte(len(p.load)))
	if p.last {
		b[lastAt] = 1
	}
	return sealed(append(b, p.load...))
}

// pieceOf reads the log sector that a sector of the disk has.
func pieceOf(at, ring int, b []byte) (piece, bool) {
	used := int(b[usedAt])
	if b[0] != logMark && b[0] != checkpointMark || used < 1 || used > api.Load {
		return piece{}, false
	}
	p := piece{b[0], numberAt(b, 0), numberAt(b, 1), b[lastAt] == 1, b[loadAt : loadAt+used]}
	whole := p.last || used == api.Load
	if min(p.number, p.epoch) == 0 || p.stands(ring) != at || !whole || !bytes.Equal(p.bytes(), b) {
		return piece{}, false
	}
	return p, true
}

// sealed fills a sector up with noughts, and puts the sum of all that at its end.
func sealed(b []byte) []byte {
	out := make([]byte, api.SectorSize)
	copy(out, b)
	sum := frame.Sum(out[:sumAt])
	for i := range sumSize {
		out[sumAt+i] = byte(sum >> (8 * (sumSize - 1 - i)))
	}
	return out
}

func appendNumber(b []byte, n int) []byte {
	for i := range numberSize {
		b = append(b, byte(n>>(8*(numberSize-1-i))))
	}
	return b
}

// numberAt reads the number behind a sector's mark and i others; one that no log has is told as 0.
func numberAt(b []byte, i int) int {
	var n uint64
	for j := range numberSize {
		n = n<<8 | uint64(b[1+i*numberSize+j])
	}
	if n > most {
		return 0
	}
	return int(n)
}
