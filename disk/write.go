package disk

import (
	"slices"

	"ingot/api"
)

type sector [api.SectorSize]byte

// copied tells a sector's bytes in memory of their own: s is a copy already.
func (s sector) copied() []byte { return s[:] }

// write is what was written to a sector, and is not sure.
type write struct {
	at    int
	bytes sector
}

// spend takes an operation from the plan; where none is left, the power goes instead.
func (d *Disk) spend() api.Errno {
	if d.plan == 0 {
		d.down = true
		return api.ErrPower
	}
	if d.plan != noPlan {
		d.plan--
	}
	d.ops++
	return api.OK
}

// settle makes a write sure. Noughts are what a sector has that is not kept, so they need no room.
func (d *Disk) settle(w write) {
	if w.bytes == (sector{}) {
		delete(d.sure, w.at)
		return
	}
	d.sure[w.at] = w.bytes
}

// settleAt makes the pending writes at places sure, which rise: a later write to a sector must come behind an earlier one.
func (d *Disk) settleAt(places []int) {
keeping:
	for place, w := range d.pending {
		switch {
		case len(places) == 0:
			break keeping
		case place < places[0]:
			continue keeping
		}
		d.settle(w)
		places = places[1:]
	}
}

// forget lets all pending writes go, those that were made sure among them.
func (d *Disk) forget() {
	d.pending = nil
	clear(d.last)
}

// rising puts numbers in order, each one once.
func rising(numbers []int) []int {
	out := slices.Clone(numbers)
	slices.Sort(out)
	return slices.Compact(out)
}
