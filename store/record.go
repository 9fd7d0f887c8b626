package store

import (
	"iter"

	"ingot/api"
	"ingot/octet"
	"ingot/tree"
)

// The first bytes of records.
const (
	putMark    = 1
	deleteMark = 2
)

// change is what a transaction does to a key.
type change struct {
	key   string
	value string
	gone  bool // the key has no value any more
}

func mayBeKey(key string) bool { return len(key) >= 1 && len(key) <= api.MaxKey }

// applyTo makes the change to keys.
func (c change) applyTo(keys *tree.Map) {
	if c.gone {
		keys.Delete(c.key)
		return
	}
	keys.Put(c.key, c.value)
}

func (c change) record() []byte {
	if c.gone {
		return octet.PutText([]byte{deleteMark}, c.key)
	}
	return octet.PutText(octet.PutText([]byte{putMark}, c.key), c.value)
}

func records(changes []change) [][]byte {
	var recs [][]byte
	for _, c := range changes {
		recs = append(recs, c.record())
	}
	return recs
}

// keysOf tells what records leave, one behind the other. It panics at one that is none.
func keysOf(recs [][]byte) *tree.Map {
	keys := tree.New()
	for _, rec := range recs {
		changeOf(rec).applyTo(keys)
	}
	return keys
}

// changeOf reads a record. It panics at one that is none.
func changeOf(rec []byte) change {
	r := octet.Over(rec)
	mark := sure(r.Byte())
	c := change{key: sure(r.Text(api.MaxKey)), gone: mark == deleteMark}
	if mark == putMark {
		c.value = sure(r.Text(api.MaxValue))
	}
	if mark != putMark && mark != deleteMark || !mayBeKey(c.key) || r.End() != api.OK {
		panic(api.ErrCorrupt)
	}
	return c
}

// sure tells what was read. It panics where there is an error.
func sure[T any](read T, e api.Errno) T {
	if e != api.OK {
		panic(api.ErrCorrupt)
	}
	return read
}

// putsOf tells the changes that make keys out of nothing, rising.
func putsOf(keys *tree.Map) []change {
	var out []change
	for key, value := range keys.Scan("", "") {
		out = append(out, change{key: key, value: value})
	}
	return out
}

func pairsOf(told iter.Seq2[string, string]) []api.Pair {
	var out []api.Pair
	for key, value := range told {
		out = append(out, api.Pair{Key: key, Value: value})
	}
	return out
}
