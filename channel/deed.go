package channel

import (
	"slices"

	"ingot/api"
	"ingot/lines"
	"ingot/patch"
)

// deed is what an operation does to its path's graph, and what takes that back.
type deed struct {
	do   func() api.Errno
	undo func() api.Errno
}

// perform does a patch's operations one by one. Where one of them answers an error, those that were done are taken back,
// the last one first.
func (c *Channel) perform(h api.Hash, p api.Patch) (e api.Errno) {
	defer c.sweep(p) // it is done last, when all that is to be taken back was
	for _, d := range c.deeds(h, p) {
		if e = d.do(); e != api.OK {
			return e
		}
		defer func() {
			if e != api.OK {
				d.undo()
			}
		}()
	}
	return api.OK
}

// takeBack undoes a patch that no other one needs. No undo answers an error: only who needs a patch may stand next to its
// lines, or kill them.
func (c *Channel) takeBack(h api.Hash, p api.Patch) {
	defer c.sweep(p)
	for _, d := range slices.Backward(c.deeds(h, p)) {
		d.undo()
	}
}

// deeds tells a patch's operations as deeds on graphs, which are made where a path has none.
func (c *Channel) deeds(h api.Hash, p api.Patch) []deed {
	var out []deed
	count := 0
	for _, op := range p.Ops {
		g := c.graphs[op.Path]
		if g == nil {
			g = lines.New()
			c.graphs[op.Path] = g
		}
		if op.Kind == api.OpKill {
			out = append(out, killing(g, op.Up, h))
			continue
		}
		out = append(out, adding(g, op, verticesOf(h, count, len(op.Lines))))
		count += len(op.Lines)
	}
	return out
}

// verticesOf tells so many lines of a patch, the first of which has the number first.
func verticesOf(h api.Hash, first, many int) []api.Vertex {
	out := make([]api.Vertex, 0, many)
	for i := range many {
		out = append(out, api.Vertex{Patch: h, Line: first + i})
	}
	return out
}

func adding(g *lines.Graph, op api.Op, ids []api.Vertex) deed {
	add, drop := g.Add, g.Drop
	return deed{
		do:   func() api.Errno { return add(op.Up, op.Down, ids, op.Lines) },
		undo: func() api.Errno { return drop(ids) },
	}
}

func killing(g *lines.Graph, v api.Vertex, by api.Hash) deed {
	kill, unkill := g.Kill, g.Unkill
	return deed{
		do:   func() api.Errno { return kill(v, by) },
		undo: func() api.Errno { return unkill(v, by) },
	}
}

// sweep lets the graphs of a patch's paths go that have no lines.
func (c *Channel) sweep(p api.Patch) {
	for _, path := range patch.Paths(p) {
		if c.graphs[path].Len() == 0 {
			delete(c.graphs, path)
		}
	}
}
