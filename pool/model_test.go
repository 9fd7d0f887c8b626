package pool_test

import (
	"bytes"
	"crypto/sha256"
	"encoding/hex"
	"fmt"
	"maps"
	"math/rand"
	"slices"
	"testing"

	"ingot/api"
	"ingot/channel"
	"ingot/names"
	"ingot/patch"
	"ingot/pool"
)

var (
	top    = api.Vertex{}
	bottom = api.Vertex{Line: 1}
)

func line(h api.Hash, n int) api.Vertex { return api.Vertex{Patch: h, Line: n} }

func compare(a, b api.Hash) int { return bytes.Compare(a[:], b[:]) }

// adding makes a patch that adds a line to a path, and needs some others.
func adding(note, path string, deps ...api.Hash) api.Patch {
	deps = slices.Compact(slices.SortedFunc(slices.Values(deps), compare))
	op := api.Op{Kind: api.OpAdd, Path: path, Up: top, Down: bottom, Lines: []string{note}}
	return api.Patch{Author: "a", Note: note, Deps: deps, Ops: []api.Op{op}}
}

func nameOf(t *testing.T, p api.Patch) api.Hash {
	t.Helper()
	h, e := patch.Name(p)
	if e != api.OK {
		t.Fatalf("%v is no patch: %d", p, int(e))
	}
	return h
}

// model is a pool in the words of the chapter: for each channel patches in order. All else is made of them anew.
type model map[string][]api.Patch

func (m model) channel(name string) *channel.Channel {
	c := channel.New()
	for _, p := range m[name] {
		if _, e := c.Apply(p); e != api.OK {
			panic("a patch that was applied may not be")
		}
	}
	return c
}

func (m model) make(name string) api.Errno {
	_, is := m[name]
	switch {
	case !names.Name(name):
		return api.ErrName
	case is:
		return api.ErrThere
	case len(m) == 8:
		return api.ErrLong
	}
	m[name] = nil
	return api.OK
}

func (m model) has(name string) bool {
	_, is := m[name]
	return is
}

func (m model) fork(from, to string) api.Errno {
	if !m.has(from) {
		return api.ErrMissing
	}
	e := m.make(to)
	if e == api.OK {
		m[to] = slices.Clone(m[from])
	}
	return e
}

func (m model) drop(name string) api.Errno {
	if !m.has(name) {
		return api.ErrMissing
	}
	delete(m, name)
	return api.OK
}

func (m model) apply(name string, q api.Patch) (api.Hash, api.Errno) {
	if !m.has(name) {
		return api.Hash{}, api.ErrMissing
	}
	h, e := m.channel(name).Apply(q)
	if e == api.OK {
		m[name] = append(slices.Clone(m[name]), q)
	}
	return h, e
}

func (m model) unapply(name string, h api.Hash) api.Errno {
	if !m.has(name) {
		return api.ErrMissing
	}
	e := m.channel(name).Unapply(h)
	if e == api.OK {
		m[name] = slices.DeleteFunc(slices.Clone(m[name]), func(p api.Patch) bool {
			other, _ := patch.Name(p)
			return other == h
		})
	}
	return e
}

// need tells a patch of a channel and all that it needs there: more and more, till none comes.
func need(c *channel.Channel, h api.Hash) []api.Hash {
	out := []api.Hash{h}
	for i := 0; i < len(out); i++ {
		p, _ := c.Patch(out[i])
		for _, dep := range p.Deps {
			if !slices.Contains(out, dep) {
				out = append(out, dep)
			}
		}
	}
	return out
}

func (m model) pull(from, to string, h api.Hash) ([]api.Hash, api.Errno) {
	if !m.has(from) || !m.has(to) || !m.channel(from).Has(h) {
		return nil, api.ErrMissing
	}
	source, target := m.channel(from), m.channel(to)
	if target.Has(h) {
		return nil, api.ErrThere
	}
	left := slices.DeleteFunc(need(source, h), target.Has)
	next := slices.Clone(m[to])
	var order []api.Hash
	for len(left) > 0 {
		// Again and again the least one that waits for none of those that are left.
		ready := slices.DeleteFunc(slices.Clone(left), func(h api.Hash) bool {
			p, _ := source.Patch(h)
			return slices.ContainsFunc(p.Deps, func(dep api.Hash) bool { return slices.Contains(left, dep) })
		})
		least := slices.MinFunc(ready, compare)
		p, _ := source.Patch(least)
		if _, e := target.Apply(p); e != api.OK {
			return nil, e
		}
		next, order = append(next, p), append(order, least)
		left = slices.DeleteFunc(left, func(h api.Hash) bool { return h == least })
	}
	m[to] = next
	return order, api.OK
}

func (m model) pairs() []api.Pair {
	all := map[string]string{}
	for name, l := range m {
		all["c/"+name] = ""
		for _, p := range l {
			h, _ := patch.Name(p)
			b, _ := patch.Encode(p)
			all["c/"+name] += string(h[:])
			all["p/"+hex.EncodeToString(h[:])] = string(b)
		}
	}
	var out []api.Pair
	for _, key := range slices.Sorted(maps.Keys(all)) {
		out = append(out, api.Pair{Key: key, Value: all[key]})
	}
	return out
}

func (m model) bytes() int {
	sum := 0
	for _, pair := range m.pairs() {
		if pair.Key[0] == 'p' {
			sum += len(pair.Value)
		}
	}
	return sum
}

// hold holds all that a pool tells against a model.
func hold(t *testing.T, what string, p *pool.Pool, m model) {
	t.Helper()
	if got := p.Pairs(); !slices.Equal(got, m.pairs()) {
		t.Fatalf("%s: Pairs %.300q, not %.300q", what, got, m.pairs())
	}
	if got := p.Names(); !slices.Equal(got, slices.Sorted(maps.Keys(m))) {
		t.Fatalf("%s: Names %q", what, got)
	}
	if got := p.Bytes(); got != m.bytes() {
		t.Fatalf("%s: Bytes %d, not %d", what, got, m.bytes())
	}
	for name := range m {
		holdChannel(t, what+", "+name, p.Channel(name), m.channel(name))
	}
}

func holdChannel(t *testing.T, what string, got, want *channel.Channel) {
	t.Helper()
	if got == nil || !slices.Equal(got.Log(), want.Log()) || got.State() != want.State() || !slices.Equal(got.Paths(), want.Paths()) {
		t.Fatalf("%s: another channel", what)
	}
	for _, path := range want.Paths() {
		if !slices.Equal(got.Shown(path), want.Shown(path)) || got.Conflicts(path) != want.Conflicts(path) {
			t.Fatalf("%s: another path %s", what, path)
		}
	}
}

// hand gives out names and patches by chance.
type hand struct {
	*rand.Rand
	hashes  []api.Hash
	patches []api.Patch
}

func newHand(t *testing.T, seed int64) *hand {
	t.Helper()
	h := &hand{Rand: rand.New(rand.NewSource(seed))}
	for i := range 30 {
		var deps []api.Hash
		for range h.Intn(4) {
			if i > 0 {
				deps = append(deps, h.hashes[h.Intn(i)])
			}
		}
		p := adding(fmt.Sprint(i), []string{"p", "q", "r"}[h.Intn(3)], deps...)
		for _, dep := range p.Deps { // a line of one that is needed dies, if it stands in that path
			if h.Intn(2) == 0 {
				p.Ops = append(p.Ops, api.Op{Kind: api.OpKill, Path: h.patches[slices.Index(h.hashes, dep)].Ops[0].Path, Up: line(dep, 0)})
			}
		}
		h.patches, h.hashes = append(h.patches, p), append(h.hashes, nameOf(t, p))
	}
	h.patches, h.hashes = append(h.patches, api.Patch{}), append(h.hashes, api.Hash{})
	return h
}

func (h *hand) name() string {
	return []string{"a", "b", "c", "d", "e", "f", "g", "h", "main", "x-1", "", "A", "a/b"}[h.Intn(13)]
}

// there gives the name of a channel that is there, mostly.
func (h *hand) there(m model) string {
	all := slices.Sorted(maps.Keys(m))
	if len(all) == 0 || h.Intn(15) == 0 {
		return h.name()
	}
	return all[h.Intn(len(all))]
}

// of gives the place of a patch that a channel has, mostly.
func (h *hand) of(m model, name string) int {
	l := m.channel(name).Log()
	if len(l) == 0 || h.Intn(10) == 0 {
		return h.Intn(len(h.hashes))
	}
	return slices.Index(h.hashes, l[h.Intn(len(l))])
}

// takenBy gives the place of a patch that a channel takes, if it comes upon one by trying several.
func (h *hand) takenBy(m model, name string) int {
	at := h.Intn(len(h.patches))
	for range h.Intn(8) {
		if _, e := m.channel(name).Apply(h.patches[at]); e == api.OK {
			break
		}
		at = h.Intn(len(h.patches))
	}
	return at
}

// play makes one call by chance, the same of a pool and of a model.
func (h *hand) play(t *testing.T, p *pool.Pool, m model) (string, api.Errno) {
	t.Helper()
	name, other, fresh := h.there(m), h.there(m), h.name()
	at := 0
	var got, want api.Errno
	var list, wantList []api.Hash
	what := ""
	switch h.Intn(20) {
	case 0, 1:
		what = "Make"
		got, want = p.Make(fresh), m.make(fresh)
	case 2:
		what = "Fork"
		got, want = p.Fork(name, fresh), m.fork(name, fresh)
	case 3:
		what = "Drop"
		if h.Intn(3) > 0 { // channels stay long enough for much to come to them
			name = fresh
		}
		got, want = p.Drop(name), m.drop(name)
	case 4, 5:
		what = "Unapply"
		at = h.of(m, name)
		got, want = p.Unapply(name, h.hashes[at]), m.unapply(name, h.hashes[at])
	case 6, 7, 8, 9:
		what = "Pull"
		at = h.of(m, name)
		list, got = p.Pull(name, other, h.hashes[at])
		wantList, want = m.pull(name, other, h.hashes[at])
	default:
		what = "Apply"
		at = h.takenBy(m, name)
		list, wantList = make([]api.Hash, 1), make([]api.Hash, 1)
		list[0], got = p.Apply(name, h.patches[at])
		wantList[0], want = m.apply(name, h.patches[at])
	}
	if got != want || !slices.Equal(list, wantList) {
		t.Fatalf("%s: %d %x, not %d %x", what, int(got), list, int(want), wantList)
	}
	return what, got
}

// P14.1 to P14.8: a pool answers what the chapter's words make of the same calls; what is loaded of its pairs goes on
// as it does.
func TestPoolAsModel(t *testing.T) {
	counts := map[string]int{}
	for seed := range int64(25) {
		h := newHand(t, seed)
		p, m := pool.New(), model{}
		for range 250 {
			what, e := h.play(t, p, m)
			counts[what+" "+fmt.Sprint(int(e))]++
			if h.Intn(6) > 0 {
				continue
			}
			hold(t, "by chance", p, m)
			q, e := pool.Load(p.Pairs())
			if e != api.OK {
				t.Fatalf("Load of its own pairs: %d", int(e))
			}
			hold(t, "loaded", q, m)
			if h.Intn(2) == 0 {
				p = q
			}
		}
	}
	for _, what := range []string{
		"Make 0", "Make 3", "Make 110", "Make 150", "Fork 0", "Fork 3", "Fork 110", "Fork 111", "Fork 150", "Drop 0", "Drop 111",
		"Apply 0", "Apply 100", "Apply 110", "Apply 111", "Unapply 0", "Unapply 111", "Unapply 130", "Pull 0", "Pull 110", "Pull 111",
	} {
		if counts[what] < 5 {
			t.Errorf("chance made %s only %d times", what, counts[what])
		}
	}
}

func sumOf(s string) [32]byte { return sha256.Sum256([]byte(s)) }
