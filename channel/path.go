package channel

import (
	"slices"

	"ingot/api"
)

// Paths tells the paths that have lines.
func (c *Channel) Paths() []string {
	if !c.isMade() {
		return nil
	}
	out := make([]string, 0, len(c.graphs))
	for path := range c.graphs {
		out = append(out, path)
	}
	slices.Sort(out)
	return out
}

// Shown tells a path's lines.
func (c *Channel) Shown(path string) []api.Shown {
	if !c.isMade() {
		return nil
	}
	return c.graphs[path].Shown() // of no graph: nothing
}

// Conflicts tells how many pairs of a path's living lines have no order.
func (c *Channel) Conflicts(path string) int {
	if !c.isMade() {
		return 0
	}
	return c.graphs[path].Conflicts()
}

// Touched tells which patches touch a path.
func (c *Channel) Touched(path string) []api.Hash {
	if !c.isMade() {
		return nil
	}
	var out []api.Hash
	for h, p := range c.patches {
		if slices.ContainsFunc(p.Ops, func(op api.Op) bool { return op.Path == path }) {
			out = append(out, h)
		}
	}
	return rising(out)
}
