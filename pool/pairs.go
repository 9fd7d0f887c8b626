package pool

import (
	"cmp"
	"slices"

	"ingot/api"
	"ingot/channel"
	"ingot/hash"
	"ingot/patch"
)

// What keys begin with.
const (
	patchKey   = "p/"
	channelKey = "c/"
)

// patches tells the bytes of all patches that any channel has.
func (p *Pool) patches() map[api.Hash][]byte {
	out := map[api.Hash][]byte{}
	for _, c := range p.channels {
		for _, h := range c.Log() {
			if _, is := out[h]; is {
				continue
			}
			q, _ := c.Patch(h)
			out[h], _ = patch.Encode(q) // a patch that was applied has bytes
		}
	}
	return out
}

// Bytes tells how many bytes all patches have.
func (p *Pool) Bytes() int {
	if !p.isMade() {
		return 0
	}
	sum := 0
	for _, b := range p.patches() {
		sum += len(b)
	}
	return sum
}

// Pairs tells the pool as keys and values.
func (p *Pool) Pairs() []api.Pair {
	if !p.isMade() {
		return nil
	}
	var out []api.Pair
	for name, c := range p.channels {
		out = append(out, api.Pair{Key: channelKey + name, Value: logText(c)})
	}
	for h, b := range p.patches() {
		out = append(out, api.Pair{Key: patchKey + hash.Hex(h[:]), Value: string(b)})
	}
	slices.SortFunc(out, func(a, b api.Pair) int { return cmp.Compare(a.Key, b.Key) })
	return out
}

// logText tells the bytes of a channel's hashes, one behind the other.
func logText(c *channel.Channel) string {
	var out []byte
	for _, h := range c.Log() {
		out = append(out, h[:]...)
	}
	return string(out)
}
