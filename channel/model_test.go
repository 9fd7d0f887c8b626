package channel_test

import (
	"bytes"
	"crypto/sha256"
	"fmt"
	"maps"
	"math/rand"
	"slices"
	"testing"

	"ingot/api"
	"ingot/channel"
	"ingot/lines"
	"ingot/patch"
)

var (
	top    = api.Vertex{}
	bottom = api.Vertex{Line: 1}
)

func line(h api.Hash, n int) api.Vertex { return api.Vertex{Patch: h, Line: n} }

func add(path string, up, down api.Vertex, l ...string) api.Op {
	return api.Op{Kind: api.OpAdd, Path: path, Up: up, Down: down, Lines: l}
}

func kill(path string, v api.Vertex) api.Op { return api.Op{Kind: api.OpKill, Path: path, Up: v} }

// patchOf makes a patch whose deps are those patches whose lines its operations name.
func patchOf(note string, ops ...api.Op) api.Patch {
	var needs []api.Hash
	for _, op := range ops {
		for _, v := range []api.Vertex{op.Up, op.Down} {
			if v.Patch != (api.Hash{}) {
				needs = append(needs, v.Patch)
			}
		}
	}
	return api.Patch{Author: "a", Note: note, Deps: risingOnce(needs), Ops: ops}
}

func risingOnce(l []api.Hash) []api.Hash {
	l = slices.Clone(l)
	slices.SortFunc(l, func(a, b api.Hash) int { return bytes.Compare(a[:], b[:]) })
	return slices.Compact(l)
}

func nameOf(t *testing.T, p api.Patch) api.Hash {
	t.Helper()
	h, e := patch.Name(p)
	if e != api.OK {
		t.Fatalf("%v is no patch: %d", p, int(e))
	}
	return h
}

// model is a channel in the words of the chapter: patches in order. All else is made of them anew, whenever it is asked for.
type model struct {
	names   []api.Hash
	patches []api.Patch
}

func (m *model) clone() *model { return &model{slices.Clone(m.names), slices.Clone(m.patches)} }

func (m *model) has(h api.Hash) bool { return slices.Contains(m.names, h) }

// graphs tells what patches make, one behind the other.
func (m *model) graphs() (map[string]*lines.Graph, api.Errno) {
	out := map[string]*lines.Graph{}
	for i, p := range m.patches {
		next := 0
		for _, op := range p.Ops {
			if out[op.Path] == nil {
				out[op.Path] = lines.New()
			}
			if e := do(out[op.Path], m.names[i], op, next); e != api.OK {
				return nil, e
			}
			next += len(op.Lines)
		}
	}
	maps.DeleteFunc(out, func(_ string, g *lines.Graph) bool { return g.Len() == 0 })
	return out, api.OK
}

func do(g *lines.Graph, h api.Hash, op api.Op, next int) api.Errno {
	if op.Kind == api.OpKill {
		return g.Kill(op.Up, h)
	}
	var ids []api.Vertex
	for i := range op.Lines {
		ids = append(ids, line(h, next+i))
	}
	return g.Add(op.Up, op.Down, ids, op.Lines)
}

func (m *model) apply(p api.Patch) (api.Hash, api.Errno) {
	if e := patch.Check(p); e != api.OK {
		return api.Hash{}, e
	}
	h, _ := patch.Name(p)
	if m.has(h) {
		return api.Hash{}, api.ErrThere
	}
	for _, dep := range p.Deps {
		if !m.has(dep) {
			return api.Hash{}, api.ErrMissing
		}
	}
	if len(m.names) == 256 {
		return api.Hash{}, api.ErrLong
	}
	next := &model{append(slices.Clone(m.names), h), append(slices.Clone(m.patches), p)}
	if _, e := next.graphs(); e != api.OK {
		return api.Hash{}, e
	}
	*m = *next
	return h, api.OK
}

func (m *model) unapply(h api.Hash) api.Errno {
	at := slices.Index(m.names, h)
	if at < 0 {
		return api.ErrMissing
	}
	for _, p := range m.patches {
		if slices.Contains(p.Deps, h) {
			return api.ErrNeeded
		}
	}
	m.names = slices.Delete(slices.Clone(m.names), at, at+1)
	m.patches = slices.Delete(slices.Clone(m.patches), at, at+1)
	return api.OK
}

// told is all that a channel tells, but for its log.
type told struct {
	state     api.Hash
	paths     []string
	shown     map[string][]api.Shown
	conflicts map[string]int
	touched   map[string][]api.Hash
	has       map[api.Hash]bool
}

func (a told) same(b told) bool {
	return a.state == b.state && slices.Equal(a.paths, b.paths) &&
		maps.EqualFunc(a.shown, b.shown, slices.Equal) && maps.Equal(a.conflicts, b.conflicts) &&
		maps.EqualFunc(a.touched, b.touched, slices.Equal) && maps.Equal(a.has, b.has)
}

func newTold(state api.Hash, paths []string) told {
	return told{state, paths, map[string][]api.Shown{}, map[string]int{}, map[string][]api.Hash{}, map[api.Hash]bool{}}
}

// about is paths and hashes to ask for.
type about struct {
	paths  []string
	hashes []api.Hash
}

func tell(c *channel.Channel, a about) told {
	out := newTold(c.State(), c.Paths())
	for _, path := range a.paths {
		out.shown[path] = c.Shown(path)
		out.conflicts[path] = c.Conflicts(path)
		out.touched[path] = c.Touched(path)
	}
	for _, h := range a.hashes {
		p, is := c.Patch(h)
		out.has[h] = c.Has(h)
		if name, _ := patch.Name(p); is != c.Has(h) || is && name != h || !is && !patch.Same(p, api.Patch{}) {
			panic("Patch tells otherwise than Has")
		}
	}
	return out
}

func (m *model) tell(a about) told {
	var all []byte
	for _, h := range risingOnce(m.names) {
		all = append(all, h[:]...)
	}
	graphs, _ := m.graphs()
	out := newTold(sha256.Sum256(all), slices.Sorted(maps.Keys(graphs)))
	for _, path := range a.paths {
		out.shown[path] = graphs[path].Shown()
		out.conflicts[path] = graphs[path].Conflicts()
		for i, p := range m.patches {
			if slices.Contains(patch.Paths(p), path) {
				out.touched[path] = append(out.touched[path], m.names[i])
			}
		}
		out.touched[path] = risingOnce(out.touched[path])
	}
	for _, h := range a.hashes {
		out.has[h] = m.has(h)
	}
	return out
}

func hold(t *testing.T, what string, c *channel.Channel, m *model, a about) {
	t.Helper()
	if got := c.Log(); !slices.Equal(got, m.names) {
		t.Fatalf("%s: Log %x, not %x", what, got, m.names)
	}
	if got, want := tell(c, a), m.tell(a); !got.same(want) {
		t.Fatalf("%s: %v\nnot\n%v", what, got, want)
	}
}

// hand gives out patches by chance.
type hand struct {
	*rand.Rand
	about
	patches []api.Patch // by the hashes of about
}

func newHand(seed int64) *hand {
	h := &hand{Rand: rand.New(rand.NewSource(seed))}
	h.paths = []string{"p", "q", "p/q", "r"}
	h.hashes = []api.Hash{{}, {9}}
	h.patches = make([]api.Patch, 2)
	return h
}

// deps gives some patches that were made, mostly of those that a channel has.
func (h *hand) deps(m *model) []api.Hash {
	var out []api.Hash
	for range h.Intn(4) {
		from := m.names
		if len(from) == 0 || h.Intn(25) == 0 {
			from = h.hashes
		}
		out = append(out, from[h.Intn(len(from))])
	}
	return risingOnce(out)
}

func (h *hand) vertex(end api.Vertex, deps []api.Hash) api.Vertex {
	if len(deps) == 0 || h.Intn(3) == 0 {
		return end
	}
	return line(deps[h.Intn(len(deps))], h.Intn(4)-h.Intn(20)/19)
}

func (h *hand) op(deps []api.Hash) api.Op {
	path := h.paths[h.Intn(len(h.paths)-h.Intn(2))]
	if len(deps) > 0 && h.Intn(3) == 0 {
		return kill(path, h.vertex(line(deps[0], 0), deps))
	}
	op := add(path, h.vertex(top, deps), h.vertex(bottom, deps))
	for range 1 + h.Intn(3) {
		op.Lines = append(op.Lines, fmt.Sprint("t", h.Intn(100)))
	}
	return op
}

// patch gives a patch; those that a channel takes are come upon by trying several.
func (h *hand) patch(c *model) api.Patch {
	if h.Intn(12) == 0 {
		return h.patches[h.Intn(len(h.patches))]
	}
	var p api.Patch
	for range 1 + h.Intn(8) {
		p = api.Patch{Author: "a", Time: h.Intn(1000), Deps: h.deps(c)}
		for range 1 + h.Intn(3) {
			p.Ops = append(p.Ops, h.op(p.Deps))
		}
		if _, e := c.clone().apply(p); e == api.OK {
			break
		}
	}
	if name, e := patch.Name(p); e == api.OK && !slices.Contains(h.hashes, name) {
		h.hashes = append(h.hashes, name)
		h.patches = append(h.patches, p)
	}
	return p
}

// play makes one call by chance, the same of a channel and of a model.
func (h *hand) play(t *testing.T, c *channel.Channel, m *model) api.Errno {
	t.Helper()
	if h.Intn(4) == 0 {
		name := h.hashes[h.Intn(len(h.hashes))]
		if len(m.names) > 0 && h.Intn(2) == 0 {
			name = m.names[h.Intn(len(m.names))]
		}
		got, want := c.Unapply(name), m.unapply(name)
		if got != want {
			t.Fatalf("Unapply: %d, not %d", int(got), int(want))
		}
		return got
	}
	p := h.patch(m)
	name, e := c.Apply(p)
	wantName, want := m.apply(p)
	if name != wantName || e != want {
		t.Fatalf("Apply of %v: %x %d, not %x %d", p, name, int(e), wantName, int(want))
	}
	return e
}

// P13.1 to P13.4: a channel answers what the chapter's words make of the same calls, whatever they are; its clones go
// their own way.
func TestChannelAsModel(t *testing.T) {
	counts := map[api.Errno]int{}
	for seed := range int64(60) {
		h := newHand(seed)
		c, m := channel.New(), &model{}
		old, oldModel := c.Clone(), m.clone()
		for i := range 80 {
			counts[h.play(t, c, m)]++
			hold(t, "by chance", c, m, h.about)
			if i%7 == 0 {
				hold(t, "a clone", old, oldModel, h.about)
				old, oldModel = c.Clone(), m.clone()
			}
			if h.Intn(10) == 0 { // the clone goes on as the channel
				c, m, old, oldModel = old, oldModel, c, m
			}
		}
	}
	for _, e := range []api.Errno{api.OK, api.ErrHead, api.ErrOp, api.ErrThere, api.ErrMissing, api.ErrOrder, api.ErrNeeded} {
		if counts[e] < 10 {
			t.Errorf("chance made %d only %d times", int(e), counts[e])
		}
	}
}

// orders gives the same patches in another order, each behind its deps.
func (h *hand) orders(m *model) *model {
	out := &model{}
	for len(out.names) < len(m.names) {
		i := h.Intn(len(m.names))
		p := m.patches[i]
		if out.has(m.names[i]) || slices.ContainsFunc(p.Deps, func(dep api.Hash) bool { return !out.has(dep) }) {
			continue
		}
		out.names = append(out.names, m.names[i])
		out.patches = append(out.patches, p)
	}
	return out
}

// P13.5: whatever came, in any order in which each stands behind its deps, is all taken, and makes the same.
func TestAnyOrder(t *testing.T) {
	for seed := range int64(40) {
		h := newHand(1000 + seed)
		c, m := channel.New(), &model{}
		for range 60 {
			h.play(t, c, m)
		}
		want := tell(c, h.about)
		for range 10 {
			other, order := channel.New(), h.orders(m)
			for i, p := range order.patches {
				if name, e := other.Apply(p); e != api.OK || name != order.names[i] {
					t.Fatalf("%v was not taken: %d", p, int(e))
				}
			}
			hold(t, "another order", other, order, h.about)
			if got := tell(other, h.about); !got.same(want) {
				t.Fatalf("%v\nnot\n%v", got, want)
			}
		}
	}
}

// P13.6: what was just applied is taken back, and what was is there again; so it goes on to the first patch.
func TestTakenBack(t *testing.T) {
	for seed := range int64(30) {
		h := newHand(2000 + seed)
		c, m := channel.New(), &model{}
		var were []told
		for range 60 {
			was := tell(c, h.about)
			p := h.patch(m)
			if _, e := m.apply(p); e != api.OK {
				continue
			}
			name, e := c.Apply(p)
			if e != api.OK {
				t.Fatal(int(e))
			}
			d := c.Clone()
			if e := d.Unapply(name); e != api.OK || !slices.Equal(d.Log(), m.names[:len(m.names)-1]) {
				t.Fatal(int(e))
			}
			was.has[name] = false
			if got := tell(d, h.about); !got.same(newAbout(was, h.about)) {
				t.Fatalf("%v\nnot\n%v", got, was)
			}
			were = append(were, was)
		}
		for i := range slices.Backward(were) {
			if e := c.Unapply(m.names[i]); e != api.OK {
				t.Fatal(int(e))
			}
			if got := tell(c, h.about); !got.same(newAbout(were[i], h.about)) {
				t.Fatalf("%v\nnot\n%v", got, were[i])
			}
		}
	}
}

// newAbout tells the same of hashes that were not known then: such patches were not there.
func newAbout(t told, a about) told {
	t.has = maps.Clone(t.has)
	for _, h := range a.hashes {
		t.has[h] = t.has[h]
	}
	return t
}
