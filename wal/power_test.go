package wal_test

import (
	"fmt"
	"math/rand"
	"slices"
	"testing"

	"ingot/api"
	"ingot/disk"
	"ingot/wal"
)

// keeper knows what a log must tell, whatever happens to its disk.
type keeper struct {
	t     *testing.T
	d     *disk.Disk
	l     *wal.Log
	recs  []string // what was answered OK
	under []string // what is told instead, if what is under way was done
	epoch int      // the greatest one that was given
	count int      // so that no two records are the same
}

func (k *keeper) fork() *keeper {
	c := *k
	c.d = k.d.Clone()
	c.l = nil
	c.recs, c.under = slices.Clone(k.recs), slices.Clone(k.under)
	return &c
}

// open opens the log; it must tell what was answered, or what is under way.
func (k *keeper) open() api.Errno {
	k.t.Helper()
	l, recs, e := wal.Open(k.d)
	if e != api.OK {
		return e
	}
	told := stringsOf(recs)
	if !slices.Equal(told, k.recs) && !slices.Equal(told, k.under) {
		k.t.Fatalf("told %.40q, neither %.40q nor %.40q", told, k.recs, k.under)
	}
	if l.Epoch() <= k.epoch {
		k.t.Fatal("epoch", l.Epoch(), "behind", k.epoch)
	}
	k.l, k.epoch = l, l.Epoch()
	k.recs, k.under = told, slices.Clone(told)
	return api.OK
}

func (k *keeper) record(size int) string {
	k.count++
	return fmt.Sprintf("%*d", max(size, 5), k.count)
}

// call appends records of some sizes, or moves the log to them.
func (k *keeper) call(move bool, sizes ...int) api.Errno {
	var recs []string
	for _, n := range sizes {
		recs = append(recs, k.record(n))
	}
	k.under = slices.Concat(k.recs, recs)
	do := k.l.Append
	if move {
		k.under, do = recs, k.l.Checkpoint
	}
	e := do(bytesOf(recs...))
	switch e {
	case api.OK:
		k.recs = k.under
	case api.ErrFull:
		k.under = k.recs
	}
	return e
}

// course is what a log goes through, till the power goes. The ring is gone round several times; what has no room is left out.
func (k *keeper) course() api.Errno {
	steps := []func() api.Errno{
		k.open,
		func() api.Errno { return k.call(false, 5) },
		func() api.Errno { return k.call(false, 300, 5) },
		func() api.Errno { return k.call(true, 300) },
		func() api.Errno { return k.call(false, 9, 9, 400) },
		k.open,
		func() api.Errno { return k.call(true) },
		func() api.Errno { return k.call(false, 500) },
		func() api.Errno { return k.call(true, 240, 400) },
		k.open,
		func() api.Errno { return k.call(true, 5) },
		func() api.Errno { return k.call(false, 230, 230) },
	}
	for _, step := range steps {
		if e := step(); e != api.OK && e != api.ErrFull {
			return e
		}
	}
	return api.OK
}

// kept goes through the ways to keep pending writes: all of them, if there are few.
func kept(pending int, visit func(keep []int)) {
	for bits := range 1 << min(pending, 6) {
		var keep []int
		for i := range pending {
			if bits>>(i%6)&1 == 1 {
				keep = append(keep, i)
			}
		}
		visit(keep)
	}
}

// fall lets the power go ahead of each operation of a course in turn; behind each way to keep pending writes the log is opened again, and goes on.
func (k *keeper) fall(deeper int) {
	for n := 0; ; n++ {
		c := k.fork()
		c.d.Arm(n)
		e := c.course()
		if e == api.OK {
			return
		}
		if e != api.ErrPower {
			k.t.Fatal("the course", e)
		}
		kept(len(c.d.Pending()), func(keep []int) {
			again := c.fork()
			want(k.t, "Restart", again.d.Restart(keep), api.OK)
			if deeper > 0 {
				again.fall(deeper - 1)
				return
			}
			want(k.t, "open", again.open(), api.OK)
			want(k.t, "opened twice", again.open(), api.OK)
			if e := again.call(false, 5); e == api.ErrFull {
				want(k.t, "moved", again.call(true, 5), api.OK)
			}
			want(k.t, "opened behind that", again.open(), api.OK)
		})
	}
}

// P6.5, P6.6, P6.7, P6.9: power goes once, and again while the log goes on behind that.
func TestPower(t *testing.T) {
	for _, sectors := range []int{10, 11, 12} {
		k := &keeper{t: t, d: lay(t, sectors).Disk}
		k.fall(0)
	}
	k := &keeper{t: t, d: lay(t, 10).Disk}
	k.fall(1)
}

// turn does one thing by chance; where the power goes, it comes back with some pending writes kept.
func (k *keeper) turn(r *rand.Rand) {
	if r.Intn(3) == 0 {
		k.d.Arm(r.Intn(9))
	}
	var sizes []int
	for range r.Intn(4) {
		sizes = append(sizes, 1+r.Intn(350))
	}
	e := api.OK
	switch r.Intn(4) {
	case 0:
		e = k.open()
	case 1:
		e = k.call(true, sizes...)
	default:
		e = k.call(false, append(sizes, 5)...)
	}
	for e == api.ErrPower {
		var keep []int
		for i := range k.d.Pending() {
			if r.Intn(2) == 0 {
				keep = append(keep, i)
			}
		}
		k.d.Restart(keep)
		if r.Intn(3) == 0 {
			k.d.Arm(r.Intn(3))
		}
		e = k.open()
	}
	if e != api.OK && e != api.ErrFull {
		k.t.Fatal(e)
	}
}

// P6.5, P6.6, P6.7, P6.9: long courses by chance.
func TestPowerByChance(t *testing.T) {
	for seed := range int64(60) {
		r := rand.New(rand.NewSource(seed))
		k := &keeper{t: t, d: lay(t, 6+r.Intn(14)).Disk}
		want(t, "open", k.open(), api.OK)
		for range 300 {
			k.turn(r)
		}
	}
}

// P6.5: what was answered OK is there without what is under way.
func TestDurable(t *testing.T) {
	d := lay(t, 12)
	l := opened(t, d.Disk)
	want(t, "Append", l.Append(bytesOf("a", "b")), api.OK)
	want(t, "Append", l.Append(bytesOf("c")), api.OK)
	d.Arm(1)
	want(t, "Append", l.Append(bytesOf(of(300))), api.ErrPower)
	d.Restart(nil)
	openTells(t, "two groups", d.Disk, "a", "b", "c")
}

// P6.6: a group of which one sector is missing is not told; what comes behind it never is.
func TestWhole(t *testing.T) {
	for lost := range 3 {
		d := lay(t, 12)
		l := opened(t, d.Disk)
		want(t, "Append", l.Append(bytesOf("a")), api.OK)
		d.Arm(3)
		want(t, "Append", l.Append(bytesOf("b", of(600))), api.ErrPower)
		keep := slices.Delete([]int{0, 1, 2}, lost, lost+1)
		want(t, "Restart", d.Restart(keep), api.OK)
		again := openTells(t, "none of it", d.Disk, "a")
		// What was kept of the torn group stands behind this one, and has a lesser epoch.
		want(t, "Append", again.Append(bytesOf("c")), api.OK)
		openTells(t, "the next one", d.Disk, "a", "c")
	}
	d := lay(t, 12)
	l := opened(t, d.Disk)
	d.Arm(3)
	want(t, "Append", l.Append(bytesOf("b", of(600))), api.ErrPower)
	want(t, "Restart", d.Restart([]int{2, 1, 0}), api.OK)
	openTells(t, "all of it", d.Disk, "b", of(600))
}
