package store_test

import (
	"bytes"
	"fmt"
	"maps"
	"math/rand"
	"slices"
	"strings"
	"testing"

	"ingot/api"
	"ingot/disk"
	"ingot/store"
	"ingot/wal"
)

// The chapter's example.
func TestExample(t *testing.T) {
	s, _ := fresh(t, 20)
	a, b := s.Begin(), s.Begin()
	a.Get("x")
	want(t, "Put", b.Put("x", "1"), api.OK)
	want(t, "Commit of b", b.Commit(), api.OK)
	want(t, "Put", a.Put("y", "2"), api.OK)
	want(t, "Commit of a", a.Commit(), api.ErrConflict)
	model{"x": "1"}.hold(t, "a conflict changes nothing", s)
}

func tells(t *testing.T, what string, x *store.Tx, w model) {
	t.Helper()
	if got := x.Scan("", ""); !slices.Equal(got, w.pairs("", "")) {
		t.Fatalf("%s: %q, not %q", what, got, w.pairs("", ""))
	}
	for _, key := range []string{"a", "b", "c", "d", "e"} {
		v, is := x.Get(key)
		want, wanted := w[key]
		if v != want || is != wanted {
			t.Fatalf("%s: %q has %q %v, not %q %v", what, key, v, is, want, wanted)
		}
	}
}

// P8.2: what the store had at Begin, with the transaction's own changes.
func TestTxTells(t *testing.T) {
	s, _ := fresh(t, 60)
	early := s.Begin()
	want(t, "Commit", commit(t, s, "a", "1", "b", "2", "c", "3"), api.OK)
	x, other := s.Begin(), s.Begin()
	had := model{"a": "1", "b": "2", "c": "3"}
	tells(t, "at Begin", x, had)
	want(t, "Put", x.Put("d", "4"), api.OK)
	want(t, "Put", x.Put("b", ""), api.OK)
	want(t, "Delete", x.Delete("a"), api.OK)
	want(t, "Delete", x.Delete("e"), api.OK)
	tells(t, "own changes", x, model{"b": "", "c": "3", "d": "4"})
	want(t, "Put", x.Put("a", "5"), api.OK)
	want(t, "Delete", x.Delete("d"), api.OK)
	tells(t, "changed again", x, model{"a": "5", "b": "", "c": "3"})
	tells(t, "another one", other, had)
	had.hold(t, "the store", s)
	want(t, "Commit", commit(t, s, "c", "9", "e", "8"), api.OK)
	want(t, "Commit", drop(t, s, "b"), api.OK)
	tells(t, "others were committed", x, model{"a": "5", "b": "", "c": "3"})
	tells(t, "others were committed, and it has no changes", other, had)
	tells(t, "begun ahead of all", early, model{})
	tells(t, "begun behind all", s.Begin(), model{"a": "1", "c": "9", "e": "8"})
	want(t, "Commit", x.Commit(), api.ErrConflict)
}

// P8.2: where a transaction's Scan begins and ends.
func TestTxScanRanges(t *testing.T) {
	s, _ := fresh(t, 60)
	want(t, "Commit", commit(t, s, "b", "1", "d", "2", "f", "3"), api.OK)
	x := s.Begin()
	x.Put("c", "4")
	x.Delete("d")
	x.Put("f", "5")
	w := model{"b": "1", "c": "4", "f": "5"}
	edges := []string{"", "\x00", "a", "b", "b\x00", "c", "d", "e", "f", "f\x00", "g", longKey + "kk"}
	for _, from := range edges {
		for _, until := range edges {
			got := x.Scan(from, until)
			if !slices.Equal(got, w.pairs(from, until)) {
				t.Errorf("Scan %q %q: %q", from, until, got)
			}
			// Rule 4: what is handed out is new memory.
			clear(got)
		}
	}
	want(t, "Commit", x.Commit(), api.OK)
	w.hold(t, "committed", s)
}

// P8.2: the errors of Put and Delete, in their order; with one nothing has changed.
func TestPutDeleteErrors(t *testing.T) {
	s, d := fresh(t, 60)
	x := s.Begin()
	for _, key := range []string{"", longKey + "k", strings.Repeat("k", 100000)} {
		for _, value := range []string{"", "1", longValue, longValue + "v"} {
			want(t, "Put of a wrong key", x.Put(key, value), api.ErrArg)
		}
		want(t, "Delete of a wrong key", x.Delete(key), api.ErrArg)
		if v, is := x.Get(key); v != "" || is {
			t.Error("a wrong key has a value", v, is)
		}
	}
	want(t, "Put of a value too long", x.Put("a", longValue+"v"), api.ErrLong)
	if got := x.Scan("", "\x00"); len(got) != 0 {
		t.Error(got)
	}
	// The key was not put: another one may.
	want(t, "Commit", commit(t, s, "a", "other"), api.OK)
	ops := d.Ops()
	want(t, "Commit", x.Commit(), api.OK)
	if d.Ops() != ops {
		t.Error("it had changes")
	}
	x = s.Begin()
	want(t, "a key of 1 byte", x.Put("k", ""), api.OK)
	want(t, "the longest", x.Put(longKey, longValue), api.OK)
	want(t, "a value too long", x.Put("k", longValue+"v"), api.ErrLong)
	want(t, "the longest key", x.Delete(longKey[1:]), api.OK)
	want(t, "Commit", x.Commit(), api.OK)
	w := model{"a": "other", "k": "", longKey: longValue}
	w.hold(t, "committed", s)
	for _, end := range []func(*store.Tx) api.Errno{(*store.Tx).Commit, (*store.Tx).Abort} {
		x = s.Begin()
		want(t, "end", end(x), api.OK)
		want(t, "Put", x.Put("a", "1"), api.ErrOver)
		want(t, "Put of a wrong key", x.Put("", longValue+"v"), api.ErrOver)
		want(t, "Delete", x.Delete("a"), api.ErrOver)
		want(t, "Delete of a wrong key", x.Delete(""), api.ErrOver)
	}
	w.hold(t, "those that are over", s)
}

// P8.3: a transaction that is over tells nothing, and does nothing.
func TestOver(t *testing.T) {
	s, d := fresh(t, 60)
	want(t, "Commit", commit(t, s, "a", "1"), api.OK)
	ends := map[string]func(x *store.Tx) api.Errno{
		"committed": func(x *store.Tx) api.Errno { return x.Commit() },
		"aborted":   func(x *store.Tx) api.Errno { return x.Abort() },
		"in conflict": func(x *store.Tx) api.Errno {
			x.Get("c")
			want(t, "Commit", commit(t, s, "c", "1"), api.OK)
			want(t, "Commit", x.Commit(), api.ErrConflict)
			return api.OK
		},
		"without room": func(x *store.Tx) api.Errno {
			for i := range 30 {
				x.Put(fmt.Sprint("k", i), longValue)
			}
			want(t, "Commit", x.Commit(), api.ErrFull)
			return api.OK
		},
	}
	for what, end := range ends {
		x := s.Begin()
		x.Put("b", what)
		want(t, what, end(x), api.OK)
		ahead, all := d.Clone(), s.All()
		for range 2 {
			if v, is := x.Get("a"); v != "" || is || len(x.Scan("", "")) != 0 {
				t.Error(what, "it tells something")
			}
			want(t, what, x.Put("z", "1"), api.ErrOver)
			want(t, what, x.Commit(), api.ErrOver)
			want(t, what, x.Abort(), api.ErrOver)
		}
		if !same(d, ahead) || !slices.Equal(s.All(), all) {
			t.Error(what, "it does something")
		}
	}
	// Aborted: nothing happens.
	ahead, all := d.Clone(), s.All()
	x := s.Begin()
	x.Put("a", "2")
	x.Delete("b")
	want(t, "Abort", x.Abort(), api.OK)
	if !same(d, ahead) || !slices.Equal(s.All(), all) {
		t.Error("Abort does something")
	}
}

// did is something that a transaction does.
type did struct {
	what string
	do   func(x *store.Tx)
}

func gets(key string) did { return did{"get " + key, func(x *store.Tx) { x.Get(key) }} }

func puts(key string) did { return did{"put " + key, func(x *store.Tx) { x.Put(key, "new") }} }

func deletes(key string) did { return did{"delete " + key, func(x *store.Tx) { x.Delete(key) }} }

func scans(from, until string) did {
	return did{fmt.Sprintf("scan %q %q", from, until), func(x *store.Tx) { x.Scan(from, until) }}
}

// P8.3: what two transactions do, and whether the one that comes later is in conflict.
func TestConflicts(t *testing.T) {
	// "there" is there, "gone" is not.
	for _, key := range []string{"there", "gone"} {
		changes := []did{puts(key), deletes(key)}
		clash := []did{
			gets(key), puts(key), deletes(key),
			scans("", ""), scans(key, ""), scans("a", ""), scans("", key+"\x00"), scans(key, key+"\x00"), scans(key, "zz"), scans("g", "u"),
		}
		free := []did{
			gets("x"), puts("x"), deletes("x"), gets(key + "\x00"), puts(key[1:]), gets(key[:2]), gets(""), puts(""),
			scans("", key), scans(key+"\x00", ""), scans("zz", ""), scans("a", "b"), scans(key, key), scans("u", "g"), scans("", "\x00"), scans(key, key[:3]),
		}
		for _, change := range changes {
			for _, mine := range clash {
				holdClash(t, key, change, mine, api.ErrConflict)
			}
			for _, mine := range free {
				holdClash(t, key, change, mine, api.OK)
			}
		}
	}
}

// holdClash holds what Commit answers if another transaction comes first; with changes of its own, and without.
func holdClash(t *testing.T, key string, change, mine did, wanted api.Errno) {
	t.Helper()
	for _, more := range []bool{false, true} {
		what := fmt.Sprintf("%s against %s, more %v", mine.what, change.what, more)
		s, _ := fresh(t, 20)
		want(t, what, commit(t, s, "there", "old", "t", "old"), api.OK)
		a, b := s.Begin(), s.Begin()
		mine.do(a)
		if more {
			a.Put("more", "1")
		}
		change.do(b)
		want(t, what, b.Commit(), api.OK)
		ahead := s.All()
		want(t, what, a.Commit(), wanted)
		if wanted != api.OK && !slices.Equal(s.All(), ahead) {
			t.Fatal(what, "a conflict changes something")
		}
		// The other way about: what was committed ahead of Begin is in no one's way.
		s, _ = fresh(t, 20)
		want(t, what, commit(t, s, "there", "old", "t", "old"), api.OK)
		b = s.Begin()
		change.do(b)
		want(t, what, b.Commit(), api.OK)
		a = s.Begin()
		mine.do(a)
		want(t, what, a.Commit(), api.OK)
	}
}

// P8.3: only what was committed, and only since Begin, is in the way.
func TestWhatIsInTheWay(t *testing.T) {
	s, d := fresh(t, 12)
	reader := s.Begin()
	reader.Get("a")
	reader.Put("r", "1")
	aborted, full := s.Begin(), s.Begin()
	aborted.Put("a", "1")
	want(t, "Abort", aborted.Abort(), api.OK)
	full.Put("a", longValue)
	want(t, "Commit", full.Commit(), api.ErrFull)
	want(t, "Commit", commit(t, s, "other", "1"), api.OK)
	beaten := s.Begin()
	beaten.Get("b")
	beaten.Put("a", "1")
	want(t, "Commit", commit(t, s, "b", "1"), api.OK)
	want(t, "Commit", beaten.Commit(), api.ErrConflict)
	idle := s.Begin()
	idle.Get("a")
	want(t, "Commit", idle.Commit(), api.OK)
	want(t, "Commit", reader.Commit(), api.OK)

	// Each of several that were committed counts, the first one too, and whatever else ended meanwhile.
	first := s.Begin()
	first.Get("a")
	second := s.Begin()
	want(t, "Commit", commit(t, s, "a", "2"), api.OK)
	third := s.Begin()
	third.Get("a")
	for i := range 20 {
		want(t, "Commit", commit(t, s, "b", fmt.Sprint(i)), api.OK)
	}
	want(t, "Abort", second.Abort(), api.OK)
	want(t, "Commit", s.Begin().Commit(), api.OK)
	want(t, "Commit", third.Commit(), api.OK)
	want(t, "Commit", first.Commit(), api.ErrConflict)

	// One that the power took is not committed; conflicts are asked ahead of that.
	loser, blind, taken, late := s.Begin(), s.Begin(), s.Begin(), s.Begin()
	loser.Get("b")
	blind.Get("q")
	want(t, "Commit", commit(t, s, "b", "3"), api.OK)
	d.Arm(0)
	taken.Put("q", "1")
	want(t, "Commit", taken.Commit(), api.ErrPower)
	loser.Put("c", "1")
	want(t, "a conflict, and no power", loser.Commit(), api.ErrConflict)
	want(t, "no changes, and no power", blind.Commit(), api.OK)
	late.Get("q")
	late.Put("c", "1")
	want(t, "changes, and no power", late.Commit(), api.ErrPower)
}

// P8.3: behind ErrPower each Commit with changes is that, with power or without; the store has what it had.
func TestPowerGoes(t *testing.T) {
	for ops := range 2 {
		s, d := fresh(t, 20)
		want(t, "Commit", commit(t, s, "a", "1"), api.OK)
		d.Arm(ops)
		want(t, "the power goes", commit(t, s, "a", "2", "b", "2"), api.ErrPower)
		w := model{"a": "1"}
		for _, back := range []bool{false, true} {
			if back {
				want(t, "Restart", d.Restart(nil), api.OK)
			}
			at := d.Ops()
			w.hold(t, "no power", s)
			want(t, "Commit", commit(t, s, "c", "1"), api.ErrPower)
			want(t, "Commit", drop(t, s, "nothing"), api.ErrPower)
			want(t, "Commit of what has no room", commit(t, s, "c", longValue, "d", longValue, "e", longValue), api.ErrPower)
			x := s.Begin()
			tells(t, "no power", x, w)
			want(t, "without changes", x.Commit(), api.OK)
			want(t, "Abort", s.Begin().Abort(), api.OK)
			w.hold(t, "no power", s)
			if d.Ops() != at {
				t.Error("the disk is written to")
			}
		}
		w.hold(t, "opened again", open(t, d))
	}
	// In Checkpoint.
	s, d := fresh(t, 10)
	value := strings.Repeat("v", 400)
	want(t, "Commit", commit(t, s, "a", value), api.OK)
	want(t, "Commit", commit(t, s, "a", value+"2"), api.OK)
	at := d.Ops()
	c := d.Clone()
	want(t, "Checkpoint", commit(t, s, "a", value+"3"), api.OK)
	for ops := range d.Ops() - at {
		again := c.Clone()
		s := open(t, again)
		again.Arm(ops)
		want(t, "the power goes in Checkpoint", commit(t, s, "a", value+"3"), api.ErrPower)
		again.Restart(nil)
		want(t, "Commit", commit(t, s, "b", "1"), api.ErrPower)
		model{"a": value + "2"}.hold(t, "no power", s)
	}
}

// P8.3: where Append is full, all keys with the changes are a checkpoint; where that is, nothing has changed.
func TestFull(t *testing.T) {
	s, d := fresh(t, 12) // a ring of 10, of which a group may have 5
	big := func(n int) string { return strings.Repeat("b", n) }
	// Records of 1 + 1 + 1 + 2 + n bytes, in the log of 2 more.
	fit := 5*api.Load - 7
	want(t, "one byte too many", commit(t, s, "x", big(fit+1)), api.ErrFull)
	model{}.hold(t, "full", s)
	want(t, "as much as may be", commit(t, s, "x", big(fit)), api.OK)
	want(t, "the same again: a checkpoint", commit(t, s, "x", big(fit)), api.OK)
	if got := logged(t, d); !slices.Equal(got, []string{putRecord("x", big(fit))}) {
		t.Errorf("%.80q", got)
	}
	ahead := d.Clone()
	want(t, "no room", commit(t, s, "y", "1"), api.ErrFull)
	want(t, "no room", commit(t, s, "y", "1", "z", "2"), api.ErrFull)
	want(t, "no room", commit(t, s, "x", big(fit+1)), api.ErrFull)
	if !same(d, ahead) {
		t.Error("what is full changes the disk")
	}
	model{"x": big(fit)}.hold(t, "full", s)
	model{"x": big(fit)}.hold(t, "full, opened again", open(t, d.Clone()))
	// A Delete has no room, but what it leaves has: nothing.
	want(t, "Delete", drop(t, s, "x"), api.OK)
	if got := logged(t, d); len(got) != 0 {
		t.Errorf("%.80q", got)
	}
	model{}.hold(t, "deleted", s)
	model{}.hold(t, "deleted, opened again", open(t, d.Clone()))
	// What is behind goes on, and checkpoints have all keys, rising, deleted ones not.
	want(t, "Commit", commit(t, s, "c", big(300), "a", big(300), "b", "2"), api.OK)
	x := s.Begin()
	x.Delete("a")
	x.Delete("q")
	x.Put("d", big(500))
	x.Put("b", "3")
	want(t, "Commit", x.Commit(), api.OK)
	recs := []string{putRecord("b", "3"), putRecord("c", big(300)), putRecord("d", big(500))}
	if got := logged(t, d); !slices.Equal(got, recs) {
		t.Errorf("%.400q", got)
	}
	model{"b": "3", "c": big(300), "d": big(500)}.hold(t, "a checkpoint", s)
}

// The kinds of a transaction's calls.
const (
	getCall = iota
	scanCall
	changeCall
)

// call is one call of a transaction, and what it told.
type call struct {
	kind       int
	key, until string
	told       []api.Pair
	value      *string // nil: deleted
}

// shadow is a transaction as the chapter words it.
type shadow struct {
	x       *store.Tx
	begun   int // how many were committed
	now     model
	changes map[string]*string // nil: deleted
	calls   []call
}

// course is a store and what it must be: the chapter's words over a log of its own.
type course struct {
	t      *testing.T
	r      *rand.Rand
	s      *store.Store
	d      *disk.Disk
	log    *wal.Log
	twin   *disk.Disk
	has    model
	past   []map[string]*string // what each that was committed changed
	under  []*shadow
	counts map[api.Errno]int
}

func newCourse(t *testing.T, seed int64, sectors int) *course {
	c := &course{t: t, r: rand.New(rand.NewSource(seed)), has: model{}, counts: map[api.Errno]int{}}
	c.s, c.d = fresh(t, sectors)
	c.twin = newDisk(t, sectors)
	c.log, _, _ = wal.Open(c.twin)
	return c
}

// keys are few, so that transactions meet.
func (c *course) key() string { return string(rune('a' + c.r.Intn(12))) }

// tell does a read of a kind over what a model has.
func (w model) tell(k call) []api.Pair {
	if k.kind == scanCall {
		return w.pairs(k.key, k.until)
	}
	if v, is := w[k.key]; is {
		return []api.Pair{{Key: k.key, Value: v}}
	}
	return nil
}

func (c *course) read(h *shadow) {
	k := call{kind: []int{getCall, getCall, scanCall}[c.r.Intn(3)], key: c.key(), until: c.key()}
	if k.kind == scanCall {
		if c.r.Intn(4) == 0 {
			k.until = ""
		}
		k.told = h.x.Scan(k.key, k.until)
	} else if v, is := h.x.Get(k.key); is {
		k.told = []api.Pair{{Key: k.key, Value: v}}
	}
	if !slices.Equal(k.told, h.now.tell(k)) {
		c.t.Fatalf("%v: not %q", k, h.now.tell(k))
	}
	h.calls = append(h.calls, k)
}

func (c *course) change(h *shadow) {
	k := call{kind: changeCall, key: c.key()}
	if c.r.Intn(3) == 0 {
		want(c.t, "Delete", h.x.Delete(k.key), api.OK)
	} else {
		v := strings.Repeat(fmt.Sprint(c.r.Intn(10)), 1+c.r.Intn(200))
		want(c.t, "Put", h.x.Put(k.key, v), api.OK)
		k.value = &v
	}
	h.now.take(k.key, k.value)
	h.changes[k.key] = k.value
	h.calls = append(h.calls, k)
}

// clashes tells whether one that was committed since Begin changed what a transaction did something with.
func (c *course) clashes(h *shadow) bool {
	for _, changes := range c.past[h.begun:] {
		for key := range changes {
			for _, k := range h.calls {
				if k.kind == scanCall && key >= k.key && (k.until == "" || key < k.until) || k.kind != scanCall && key == k.key {
					return true
				}
			}
		}
	}
	return false
}

func (w model) take(key string, value *string) {
	if value == nil {
		delete(w, key)
	} else {
		w[key] = *value
	}
}

func changed(has model, changes map[string]*string) model {
	next := maps.Clone(has)
	for key, value := range changes {
		next.take(key, value)
	}
	return next
}

func recordsOf(changes map[string]*string) []string {
	var out []string
	for _, key := range slices.Sorted(maps.Keys(changes)) {
		if v := changes[key]; v == nil {
			out = append(out, deleteRecord(key))
		} else {
			out = append(out, putRecord(key, *v))
		}
	}
	return out
}

// committed does Commit by the chapter's words, over the twin's log.
func (c *course) committed(h *shadow) api.Errno {
	if c.clashes(h) {
		return api.ErrConflict
	}
	if len(h.changes) == 0 {
		return api.OK
	}
	next := changed(c.has, h.changes)
	e := c.log.Append(bytesOf(recordsOf(h.changes)))
	if e == api.ErrFull {
		var recs []string
		for _, p := range next.pairs("", "") {
			recs = append(recs, putRecord(p.Key, p.Value))
		}
		c.counts[api.ErrFull+1000]++
		e = c.log.Checkpoint(bytesOf(recs))
	}
	if e == api.OK {
		c.has = next
		c.past = append(c.past, h.changes)
	}
	return e
}

// alone holds P8.4: what a transaction was told is what it would have been told behind all that were committed ahead of it.
func (c *course) alone(h *shadow) {
	now := maps.Clone(c.has)
	for _, k := range h.calls {
		if k.kind == changeCall {
			now.take(k.key, k.value)
		} else if !slices.Equal(k.told, now.tell(k)) {
			c.t.Fatalf("%v: alone %q", k, now.tell(k))
		}
	}
}

func (c *course) end(i int) {
	h := c.under[i]
	c.under = slices.Delete(c.under, i, i+1)
	if c.r.Intn(8) == 0 {
		want(c.t, "Abort", h.x.Abort(), api.OK)
	} else {
		ahead := *c
		wanted := c.committed(h)
		e := h.x.Commit()
		c.counts[e]++
		want(c.t, "Commit", e, wanted)
		if e == api.OK {
			ahead.alone(h)
		}
	}
	c.has.hold(c.t, "an end", c.s)
	if !slices.EqualFunc(c.d.Sure(), c.twin.Sure(), bytes.Equal) || c.d.Ops() != c.twin.Ops() {
		c.t.Fatal("the disk has other bytes")
	}
}

func (c *course) step() {
	i := c.r.Intn(7)
	if i >= len(c.under) {
		x := c.s.Begin()
		c.under = append(c.under, &shadow{x: x, begun: len(c.past), now: maps.Clone(c.has), changes: map[string]*string{}})
		return
	}
	switch c.r.Intn(9) {
	case 0, 1, 2:
		c.read(c.under[i])
	case 3, 4, 5:
		c.change(c.under[i])
	default:
		c.end(i)
	}
}

// P8.2, P8.3, P8.4: transactions side by side, held to the chapter's words call by call, and their disk to a log that is given those records.
func TestCourses(t *testing.T) {
	counts := map[api.Errno]int{}
	for seed := range int64(40) {
		c := newCourse(t, seed, 8+int(seed%5)*4)
		for range 1000 {
			c.step()
		}
		c.has.hold(t, "opened again", open(t, c.d))
		for e, n := range c.counts {
			counts[e] += n
		}
	}
	for _, e := range []api.Errno{api.OK, api.ErrConflict, api.ErrFull, api.ErrFull + 1000} {
		if counts[e] < 100 {
			t.Error("the courses have too little of", e, counts)
		}
	}
}

// P8.3: an old transaction that is never ended, and many that are.
func TestManyCommits(t *testing.T) {
	s, _ := fresh(t, 400)
	old, older := s.Begin(), s.Begin()
	old.Get("k7")
	older.Get("none")
	for i := range 3000 {
		want(t, "Commit", commit(t, s, fmt.Sprint("k", i%500), fmt.Sprint(i)), api.OK)
	}
	want(t, "old", old.Commit(), api.ErrConflict)
	want(t, "older", older.Commit(), api.OK)
}
