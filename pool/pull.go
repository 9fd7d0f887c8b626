package pool

import (
	"slices"

	"ingot/api"
	"ingot/channel"
	"ingot/deps"
)

// Pull applies a patch of one channel, and all that it needs, to another one.
func (p *Pool) Pull(from, to string, h api.Hash) ([]api.Hash, api.Errno) {
	source, target, e := p.findBoth(from, to)
	switch {
	case e != api.OK:
		return nil, e
	case !source.Has(h):
		return nil, api.ErrMissing
	case target.Has(h):
		return nil, api.ErrThere
	}
	order, e := deps.Order(lacking(source, target, h))
	if e != api.OK {
		return nil, e
	}
	// The patches come to a clone, so that the channel stays as it is where one of them is not taken.
	next := target.Clone()
	for _, name := range order {
		q, _ := source.Patch(name)
		if _, e := next.Apply(q); e != api.OK {
			return nil, e
		}
	}
	p.channels[to] = next
	return order, api.OK
}

func (p *Pool) findBoth(from, to string) (source, target *channel.Channel, e api.Errno) {
	source, e = p.find(from)
	if e != api.OK {
		return nil, nil, e
	}
	target, e = p.find(to)
	if e != api.OK {
		return nil, nil, e
	}
	return source, target, api.OK
}

// lacking tells a patch of a channel, and all that it needs there, as far as another channel does not have them; of
// their deps those alone that are among them.
func lacking(source, target *channel.Channel, h api.Hash) []api.Item {
	all := itemsOf(source)
	wanted := append(deps.Needs(all, h), h)
	var out []api.Item
	for _, item := range all {
		if target.Has(item.Name) || !slices.Contains(wanted, item.Name) {
			continue
		}
		// What a wanted one needs is wanted too: it is among them, unless the other channel has it.
		item.Deps = slices.DeleteFunc(item.Deps, target.Has)
		out = append(out, item)
	}
	return out
}

func itemsOf(c *channel.Channel) []api.Item {
	var out []api.Item
	for _, h := range c.Log() {
		q, _ := c.Patch(h)
		out = append(out, api.Item{Name: h, Deps: q.Deps})
	}
	return out
}
