package lines

import (
	"slices"

	"ingot/api"
)

// Add adds lines between two.
func (g *Graph) Add(up, down api.Vertex, ids []api.Vertex, texts []string) api.Errno {
	if e := g.checkAdd(up, down, ids, texts); e != api.OK {
		return e
	}
	above := up
	for i, id := range ids {
		below := down
		if i+1 < len(ids) {
			below = ids[i+1]
		}
		g.lines[id] = &line{text: texts[i], from: []api.Vertex{above}, down: below}
		above = id
	}
	if l := g.lines[down]; l != nil {
		l.from = append(l.from, above)
	}
	return api.OK
}

func (g *Graph) checkAdd(up, down api.Vertex, ids []api.Vertex, texts []string) api.Errno {
	_, may := setOf(ids)
	switch {
	case !g.isMade():
		return api.ErrNil
	case !may, len(texts) != len(ids):
		return api.ErrArg
	case slices.ContainsFunc(ids, g.isLine):
		return api.ErrThere
	case !g.Has(up), !g.Has(down):
		return api.ErrMissing
	case !g.Ahead(up, down):
		return api.ErrOrder
	case len(ids) > api.MaxVertices-len(g.lines):
		return api.ErrLong
	}
	return api.OK
}

// setOf tells ids as a set, and whether they may be lines: there are some, none is Top or Bottom, none is there twice.
func setOf(ids []api.Vertex) (map[api.Vertex]struct{}, bool) {
	set := make(map[api.Vertex]struct{}, len(ids))
	for _, id := range ids {
		set[id] = struct{}{}
	}
	return set, len(ids) > 0 && len(set) == len(ids) && !slices.ContainsFunc(ids, isEnd)
}

// Drop takes additions away.
func (g *Graph) Drop(ids []api.Vertex) api.Errno {
	gone, may := setOf(ids)
	switch {
	case !g.isMade():
		return api.ErrNil
	case !may:
		return api.ErrArg
	case !g.areLines(ids):
		return api.ErrMissing
	case g.isNeeded(gone):
		return api.ErrNeeded
	}
	for _, id := range ids {
		g.leave(id)
		delete(g.lines, id)
	}
	return api.OK
}

func (g *Graph) areLines(ids []api.Vertex) bool {
	for _, id := range ids {
		if !g.isLine(id) {
			return false
		}
	}
	return true
}

// isNeeded tells whether a line that stays stands next to one that goes in its own addition: either that addition would
// go in part, or it has the one that goes as its up or down.
func (g *Graph) isNeeded(gone map[api.Vertex]struct{}) bool {
	for v, l := range g.lines {
		if _, goes := gone[v]; goes {
			continue
		}
		_, up := gone[l.from[0]]
		_, down := gone[l.down]
		if up || down {
			return true
		}
	}
	return false
}

// leave takes away the step from a line to what lies behind it, if that is there still.
func (g *Graph) leave(id api.Vertex) {
	if l := g.lines[g.lines[id].down]; l != nil {
		l.from = slices.DeleteFunc(l.from, func(v api.Vertex) bool { return v == id })
	}
}

// Kill kills a line.
func (g *Graph) Kill(v api.Vertex, by api.Hash) api.Errno {
	l, e := g.find(v)
	if e != api.OK {
		return e
	}
	if _, is := l.kills[by]; is {
		return api.ErrThere
	}
	if l.kills == nil {
		l.kills = map[api.Hash]struct{}{}
	}
	l.kills[by] = struct{}{}
	return api.OK
}

// Unkill takes that back.
func (g *Graph) Unkill(v api.Vertex, by api.Hash) api.Errno {
	l, e := g.find(v)
	if e != api.OK {
		return e
	}
	if _, is := l.kills[by]; !is {
		return api.ErrMissing
	}
	delete(l.kills, by)
	return api.OK
}

func (g *Graph) find(v api.Vertex) (*line, api.Errno) {
	switch {
	case !g.isMade():
		return nil, api.ErrNil
	case isEnd(v):
		return nil, api.ErrArg
	case !g.isLine(v):
		return nil, api.ErrMissing
	}
	return g.lines[v], api.OK
}
