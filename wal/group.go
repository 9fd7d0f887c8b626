package wal

import (
	"iter"

	"ingot/api"
	"ingot/disk"
	"ingot/octet"
)

// pieces is what the ring's sectors have, in their order; where one is not right, it is a piece of number 0.
type pieces []piece

func readRing(d *disk.Disk) (pieces, api.Errno) {
	ring := make(pieces, d.Sectors()-roots)
	for i := range ring {
		at := roots + i
		b, e := d.Read(at)
		if e != api.OK {
			return nil, e
		}
		if p, ok := pieceOf(at, len(ring), b); ok {
			ring[i] = p
		}
	}
	return ring, api.OK
}

// readRoots tells the right root of the greatest serial number.
func readRoots(d *disk.Disk) (root, api.Errno) {
	var last root
	for at := range roots {
		b, e := d.Read(at)
		if e != api.OK {
			return root{}, e
		}
		if r, ok := rootOf(at, b); ok && r.serial > last.serial {
			last = r
		}
	}
	return last, api.OK
}

// epoch tells the greatest epoch of the ring, 0 of one that has nothing.
func (ring pieces) epoch() int {
	greatest := 0
	for _, p := range ring {
		greatest = max(greatest, p.epoch)
	}
	return greatest
}

// group is records that are there together, or not at all.
type group struct {
	mark    byte
	epoch   int
	sectors int
	records [][]byte
}

// groupAt reads the group from a number on. No group goes round the ring: each place has one number.
func (ring pieces) groupAt(q int) (group, bool) {
	head := ring[q%len(ring)]
	g := group{mark: head.mark, epoch: head.epoch}
	var load []byte
reading:
	for {
		number := q + g.sectors
		p := ring[number%len(ring)]
		g.sectors++
		load = append(load, p.load...)
		switch {
		case p.number != number, p.mark != g.mark, p.epoch != g.epoch:
			return group{}, false
		case p.last:
			break reading
		}
	}
	for rec, ok := range records(load) {
		if !ok {
			return group{}, false
		}
		g.records = append(g.records, rec)
	}
	return g, true
}

// read tells the records of a root's groups, and how many sectors these have.
func (ring pieces) read(from root) ([][]byte, int) {
	var recs [][]byte
	used, least := 0, from.floor
	for {
		g, ok := ring.groupAt(from.start + used)
		// A checkpoint behind others is one whose root was never sure.
		if !ok || g.epoch < least || used > 0 && g.mark == checkpointMark {
			return recs, used
		}
		recs = append(recs, g.records...)
		used += g.sectors
		least = g.epoch
	}
}

// records tells the records that a load is made of; the last one with false, if what stands there is none.
func records(load []byte) iter.Seq2[[]byte, bool] {
	return func(yield func([]byte, bool) bool) {
		r := octet.Over(load)
		for r.Left() > 0 {
			text, e := r.Text(api.MaxRecord)
			ok := e == api.OK && text != ""
			if !yield([]byte(text), ok) || !ok {
				return
			}
		}
	}
}

// loadOf tells the bytes of a group.
func loadOf(recs [][]byte) []byte {
	var load []byte
	for _, rec := range recs {
		load = append(load, octet.PutText(nil, string(rec))...)
	}
	return load
}

// sectorsOf tells how many sectors a group has. It makes no load: that is made where it is known to have room.
func sectorsOf(recs [][]byte) int {
	size := 0
	for _, rec := range recs {
		size += len(octet.Put(nil, uint64(len(rec)))) + len(rec)
	}
	return (size + api.Load - 1) / api.Load
}
