package store

import (
	"maps"
	"slices"

	"ingot/api"
	"ingot/tree"
)

// Tx is a transaction.
type Tx struct {
	store   *Store
	begun   int // how many commits its store had at Begin
	over    bool
	keys    *tree.Map // what the store had at Begin, with the changes
	changes map[string]change
	got     map[string]struct{}
	scanned map[span]struct{}
}

// span is a range of keys: not below from, and below until, or until is "".
type span struct{ from, until string }

func (r span) has(key string) bool {
	return key >= r.from && (r.until == "" || key < r.until)
}

// ready tells why nothing can be asked of a transaction.
func (t *Tx) ready() api.Errno {
	if t == nil || t.store == nil {
		return api.ErrNil
	}
	if t.over {
		return api.ErrOver
	}
	return api.OK
}

// Get tells a key's value.
func (t *Tx) Get(key string) (string, bool) {
	// What may be no key, no transaction can change.
	if t.ready() != api.OK || !mayBeKey(key) {
		return "", false
	}
	t.got[key] = struct{}{}
	return t.keys.Get(key)
}

// Scan tells the keys of a range, rising.
func (t *Tx) Scan(from, until string) []api.Pair {
	if t.ready() != api.OK {
		return nil
	}
	t.scanned[span{from, until}] = struct{}{}
	return pairsOf(t.keys.Scan(from, until))
}

// Put gives a key a value.
func (t *Tx) Put(key, value string) api.Errno {
	if e := t.ready(); e != api.OK {
		return e
	}
	if !mayBeKey(key) {
		return api.ErrArg
	}
	if len(value) > api.MaxValue {
		return api.ErrLong
	}
	t.take(change{key: key, value: value})
	return api.OK
}

// Delete takes a key away.
func (t *Tx) Delete(key string) api.Errno {
	if e := t.ready(); e != api.OK {
		return e
	}
	if !mayBeKey(key) {
		return api.ErrArg
	}
	t.take(change{key: key, gone: true})
	return api.OK
}

func (t *Tx) take(c change) {
	c.applyTo(t.keys)
	t.changes[c.key] = c
}

// saw tells whether a transaction got, put or deleted a key, or scanned a range that has it.
func (t *Tx) saw(key string) bool {
	if _, did := t.changes[key]; did {
		return true
	}
	if _, did := t.got[key]; did {
		return true
	}
	for r := range t.scanned {
		if r.has(key) {
			return true
		}
	}
	return false
}

// rising tells the changes by their keys.
func (t *Tx) rising() []change {
	var out []change
	for _, key := range slices.Sorted(maps.Keys(t.changes)) {
		out = append(out, t.changes[key])
	}
	return out
}

// Commit makes the changes.
func (t *Tx) Commit() api.Errno {
	if e := t.ready(); e != api.OK {
		return e
	}
	defer t.end()
	if t.store.conflicts(t) {
		return api.ErrConflict
	}
	if len(t.changes) == 0 {
		return api.OK
	}
	return t.store.write(t.rising())
}

// Abort lets them go.
func (t *Tx) Abort() api.Errno {
	if e := t.ready(); e != api.OK {
		return e
	}
	t.end()
	return api.OK
}

// end lets all go that the transaction kept: it tells nothing any more.
func (t *Tx) end() {
	t.store.ended(t)
	*t = Tx{store: t.store, over: true}
}
