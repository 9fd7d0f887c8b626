package pool

import (
	"errors"
	"strconv"
	"strings"

	"ingot/api"
	"ingot/hash"
	"ingot/patch"
)

// noPair is what reading gives up with at a pair that may not be: its key, and what speaks against it.
type noPair struct {
	key string
	why error
}

func (n noPair) Error() string { return "pool: " + strconv.Quote(n.key) + ": " + n.why.Error() }

func (n noPair) Unwrap() error { return n.why }

var (
	errKind = errors.New("a key of another kind")
	errHash = errors.New("a patch that has another hash")
	errLog  = errors.New("bytes that are no hashes")
	errLeft = errors.New("a pair that stands in another place, or that no channel needs")
)

// Load makes a pool of pairs.
func Load(l []api.Pair) (*Pool, api.Errno) {
	p, err := read(l)
	if bad := (noPair{}); errors.As(err, &bad) {
		return nil, api.ErrCorrupt
	}
	return p, api.OK
}

// reader makes a pool of pairs, one by one: first the patches, then the channels that need them.
type reader struct {
	pool    *Pool
	patches map[api.Hash]api.Patch
}

// read tells the pool that has just these pairs. It gives up with a noPair.
func read(l []api.Pair) (*Pool, error) {
	r := reader{pool: New(), patches: map[api.Hash]api.Patch{}}
	var others []api.Pair
	for _, pair := range l {
		err := r.patch(pair)
		if errors.Is(err, errKind) {
			others = append(others, pair)
		} else if err != nil {
			return nil, err
		}
	}
	for _, pair := range others {
		if err := r.channel(pair); err != nil {
			return nil, err
		}
	}
	return r.pool, r.end(l)
}

// patch reads a pair that has a patch. One of another kind wraps errKind.
func (r *reader) patch(pair api.Pair) error {
	digits, is := strings.CutPrefix(pair.Key, patchKey)
	if !is {
		return noPair{pair.Key, errKind}
	}
	b := []byte(pair.Value)
	h := hash.Sum(b)
	if hash.Hex(h[:]) != digits {
		return noPair{pair.Key, errHash}
	}
	q, e := patch.Decode(b)
	if e != api.OK {
		return noPair{pair.Key, e}
	}
	r.patches[h] = q
	return nil
}

// channel reads a pair that has a channel.
func (r *reader) channel(pair api.Pair) error {
	name, is := strings.CutPrefix(pair.Key, channelKey)
	if !is {
		return noPair{pair.Key, errKind}
	}
	if e := r.pool.Make(name); e != api.OK {
		return noPair{pair.Key, e}
	}
	for rest := pair.Value; len(rest) > 0; {
		var h api.Hash
		if copy(h[:], rest) < len(h) {
			return noPair{pair.Key, errLog}
		}
		rest = rest[len(h):]
		if e := r.apply(name, h); e != api.OK {
			return noPair{pair.Key, e}
		}
	}
	return nil
}

func (r *reader) apply(name string, h api.Hash) api.Errno {
	q, is := r.patches[h]
	if !is {
		return api.ErrMissing
	}
	_, e := r.pool.Apply(name, q)
	return e
}

// end looks for a pair that the pool does not have in that place. The pool has none beside them, as all that it has was
// read out of them.
func (r *reader) end(l []api.Pair) error {
	has := r.pool.Pairs()
	for i, pair := range l {
		if i >= len(has) || has[i] != pair {
			return noPair{pair.Key, errLeft}
		}
	}
	return nil
}
