package store_test

import (
	"fmt"
	"maps"
	"math/rand"
	"slices"
	"strings"
	"testing"

	"ingot/api"
	"ingot/disk"
	"ingot/store"
)

// keeper knows what a store must have, whatever happens to its disk.
type keeper struct {
	t     *testing.T
	d     *disk.Disk
	s     *store.Store
	has   model // by what was answered OK
	under model // if what is under way was done
	count int   // so that no two values are the same
}

func (k *keeper) fork() *keeper {
	c := *k
	c.d, c.s = k.d.Clone(), nil
	c.has, c.under = maps.Clone(k.has), maps.Clone(k.under)
	return &c
}

// open opens the store; it must have what was answered, or that and what is under way.
func (k *keeper) open() api.Errno {
	k.t.Helper()
	s, e := store.Open(k.d)
	if e != api.OK {
		return e
	}
	all := s.All()
	if !slices.Equal(all, k.has.pairs("", "")) {
		if !slices.Equal(all, k.under.pairs("", "")) {
			k.t.Fatalf("it has %.100q, neither %.100q nor %.100q", all, k.has.pairs("", ""), k.under.pairs("", ""))
		}
		k.has = k.under
	}
	k.s, k.under = s, maps.Clone(k.has)
	k.has.hold(k.t, "opened", s)
	return api.OK
}

// commit puts values of some sizes; a size below 0 deletes the key.
func (k *keeper) commit(sizes map[string]int) api.Errno {
	x := k.s.Begin()
	k.under = maps.Clone(k.has)
	for key, size := range sizes {
		if size < 0 {
			want(k.t, "Delete", x.Delete(key), api.OK)
			delete(k.under, key)
			continue
		}
		k.count++
		k.under[key] = fmt.Sprint(k.count) + strings.Repeat(".", size)
		want(k.t, "Put", x.Put(key, k.under[key]), api.OK)
	}
	e := x.Commit()
	switch e {
	case api.OK:
		k.has = k.under
	case api.ErrFull:
		k.under = k.has
	}
	k.has.hold(k.t, "behind a commit", k.s)
	return e
}

// course is what a store goes through, till the power goes: appends, checkpoints, and what has no room.
func (k *keeper) course() api.Errno {
	steps := []map[string]int{
		{"a": 5},
		{"b": 5, "a": 300},
		nil, // opened again
		{"a": -1, "c": 200, "d": 1},
		{"c": 240},
		{"c": 240, "e": -1},
		{"a": 2000, "b": 0},
		{"b": -1, "d": -1},
		nil,
		{"c": 250, "x": 250},
		{"c": -1, "x": -1},
		{"c": 400},
	}
	if e := k.open(); e != api.OK {
		return e
	}
	for _, sizes := range steps {
		e := api.OK
		if sizes == nil {
			e = k.open()
		} else {
			e = k.commit(sizes)
		}
		if e != api.OK && e != api.ErrFull {
			return e
		}
	}
	return api.OK
}

// kept goes through the ways to keep pending writes: all of them, if there are few.
func kept(pending int, visit func(keep []int)) {
	const most = 6
	for bits := range 1 << min(pending, most) {
		var keep []int
		for i := range pending {
			if bits>>(i%most)&1 == 1 {
				keep = append(keep, i)
			}
		}
		visit(keep)
	}
}

// fall lets the power go ahead of each operation of a course in turn; behind each way to keep pending writes the store is opened again, and goes on.
func (k *keeper) fall(deeper int) {
	for n := 0; ; n++ {
		c := k.fork()
		c.d.Arm(n)
		e := c.course()
		if e == api.OK {
			return
		}
		want(k.t, "the course", e, api.ErrPower)
		kept(len(c.d.Pending()), func(keep []int) {
			again := c.fork()
			want(k.t, "Restart", again.d.Restart(keep), api.OK)
			if deeper > 0 {
				again.fall(deeper - 1)
				return
			}
			want(k.t, "opened", again.open(), api.OK)
			want(k.t, "opened twice", again.open(), api.OK)
			want(k.t, "Commit", again.commit(map[string]int{"a": 3, "b": -1, "c": -1, "d": -1, "x": -1}), api.OK)
			want(k.t, "opened behind that", again.open(), api.OK)
		})
	}
}

// P8.5: power goes once, and again while the store goes on behind that.
func TestPower(t *testing.T) {
	for _, sectors := range []int{9, 10, 12} {
		k := &keeper{t: t, d: newDisk(t, sectors), has: model{}, under: model{}}
		k.fall(0)
	}
	k := &keeper{t: t, d: newDisk(t, 10), has: model{}, under: model{}}
	k.fall(1)
}

// P8.5: power goes again and again, by chance.
func TestPowerByChance(t *testing.T) {
	for seed := range int64(30) {
		r := rand.New(rand.NewSource(seed))
		k := &keeper{t: t, d: newDisk(t, 8+r.Intn(20)), has: model{}, under: model{}}
		for range 60 {
			want(t, "opened", k.open(), api.OK)
			k.d.Arm(r.Intn(25))
			e := api.OK
			for e == api.OK || e == api.ErrFull {
				sizes := map[string]int{}
				for range 1 + r.Intn(3) {
					sizes[string(rune('a'+r.Intn(6)))] = r.Intn(300) - 60
				}
				e = k.commit(sizes)
				if e == api.ErrFull && r.Intn(4) == 0 {
					break // with nothing under way, and some writes left
				}
			}
			var keep []int
			for i := range k.d.Pending() {
				if r.Intn(2) == 0 {
					keep = append(keep, i)
				}
			}
			want(t, "Restart", k.d.Restart(keep), api.OK)
		}
	}
}
