package audit

import "ingot/api"

// chain is entries each of which is bound to all ahead of it.
type chain struct{ entries []api.Entry }

// end tells the last entry; without one, an empty entry, whose tick lies ahead of none.
func (c *chain) end() api.Entry {
	if len(c.entries) == 0 {
		return api.Entry{}
	}
	return c.entries[len(c.entries)-1]
}

// head tells the last entry's digest; noughts, if there is none.
func (c *chain) head() api.Hash {
	if len(c.entries) == 0 {
		return api.Hash{}
	}
	return Digest(c.end())
}

// next tells the entry that makes a chain with it behind.
func (c *chain) next(tick int, who, what string) (api.Entry, api.Errno) {
	switch {
	case tick < c.end().Tick || tick > api.MaxTime:
		return api.Entry{}, api.ErrArg
	case len(who) > api.MaxName || len(what) > api.MaxWhat || len(c.entries) >= api.MaxEntries:
		return api.Entry{}, api.ErrLong
	}
	return api.Entry{Seq: len(c.entries) + 1, Tick: tick, Who: who, What: what, Prev: c.head()}, api.OK
}
