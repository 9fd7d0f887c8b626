package lines_test

import (
	"bytes"
	"fmt"
	"math/rand"
	"slices"
	"testing"

	"ingot/api"
	"ingot/lines"
)

var (
	top    = api.Vertex{}
	bottom = api.Vertex{Line: 1}
)

func at(p byte, n int) api.Vertex { return api.Vertex{Patch: api.Hash{p}, Line: n} }

func by(p byte) api.Hash { return api.Hash{31: p} }

// addition is lines that came together, as the chapter tells it.
type addition struct {
	up, down api.Vertex
	ids      []api.Vertex
}

func (a addition) steps() [][2]api.Vertex {
	row := slices.Concat([]api.Vertex{a.up}, a.ids, []api.Vertex{a.down})
	var out [][2]api.Vertex
	for i := range len(row) - 1 {
		out = append(out, [2]api.Vertex{row[i], row[i+1]})
	}
	return out
}

// model is a graph in the words of the chapter: additions, texts, kills, and nothing worked out ahead.
type model struct {
	additions []addition
	texts     map[api.Vertex]string
	kills     map[api.Vertex][]api.Hash
}

func newModel() *model {
	return &model{texts: map[api.Vertex]string{}, kills: map[api.Vertex][]api.Hash{}}
}

func (m *model) steps() [][2]api.Vertex {
	out := [][2]api.Vertex{{top, bottom}}
	for _, a := range m.additions {
		out = append(out, a.steps()...)
	}
	return out
}

func (m *model) isLine(v api.Vertex) bool {
	_, is := m.texts[v]
	return is
}

func (m *model) has(v api.Vertex) bool { return v == top || v == bottom || m.isLine(v) }

// behind tells all that a vertex is ahead of: it takes steps till none leads on.
func (m *model) behind(v api.Vertex) map[api.Vertex]bool {
	out := map[api.Vertex]bool{}
	steps := m.steps()
	for more := true; more; {
		more = false
		for _, s := range steps {
			if (s[0] == v || out[s[0]]) && !out[s[1]] {
				out[s[1]] = true
				more = true
			}
		}
	}
	return out
}

func isBad(ids []api.Vertex) bool {
	for i, id := range ids {
		if id == top || id == bottom || slices.Contains(ids[:i], id) {
			return true
		}
	}
	return len(ids) == 0
}

func (m *model) add(up, down api.Vertex, ids []api.Vertex, texts []string) api.Errno {
	switch {
	case isBad(ids) || len(ids) != len(texts):
		return api.ErrArg
	case slices.ContainsFunc(ids, m.isLine):
		return api.ErrThere
	case !m.has(up) || !m.has(down):
		return api.ErrMissing
	case !m.behind(up)[down]:
		return api.ErrOrder
	case len(m.texts)+len(ids) > 512:
		return api.ErrLong
	}
	m.additions = append(m.additions, addition{up, down, slices.Clone(ids)})
	for i, id := range ids {
		m.texts[id] = texts[i]
	}
	return api.OK
}

func (m *model) drop(ids []api.Vertex) api.Errno {
	switch {
	case isBad(ids):
		return api.ErrArg
	case slices.ContainsFunc(ids, func(v api.Vertex) bool { return !m.isLine(v) }):
		return api.ErrMissing
	}
	var stay []addition
	goes := 0
	for _, a := range m.additions {
		if slices.ContainsFunc(a.ids, func(v api.Vertex) bool { return !slices.Contains(ids, v) }) {
			stay = append(stay, a)
		} else {
			goes += len(a.ids)
		}
	}
	for _, a := range stay {
		if slices.Contains(ids, a.up) || slices.Contains(ids, a.down) {
			return api.ErrNeeded
		}
	}
	if goes != len(ids) {
		return api.ErrNeeded
	}
	m.additions = stay
	for _, id := range ids {
		delete(m.texts, id)
		delete(m.kills, id)
	}
	return api.OK
}

func (m *model) kill(v api.Vertex, h api.Hash) api.Errno {
	switch {
	case v == top || v == bottom:
		return api.ErrArg
	case !m.isLine(v):
		return api.ErrMissing
	case slices.Contains(m.kills[v], h):
		return api.ErrThere
	}
	m.kills[v] = append(slices.Clone(m.kills[v]), h)
	return api.OK
}

func (m *model) unkill(v api.Vertex, h api.Hash) api.Errno {
	switch {
	case v == top || v == bottom:
		return api.ErrArg
	case !slices.Contains(m.kills[v], h):
		return api.ErrMissing
	}
	m.kills[v] = slices.DeleteFunc(slices.Clone(m.kills[v]), func(k api.Hash) bool { return k == h })
	return api.OK
}

func least(l []api.Vertex) api.Vertex {
	return slices.MinFunc(l, func(a, b api.Vertex) int {
		if c := bytes.Compare(a.Patch[:], b.Patch[:]); c != 0 {
			return c
		}
		if a.Line < b.Line {
			return -1
		}
		return 1
	})
}

func (m *model) shown() []api.Shown {
	steps := m.steps()
	behind := map[api.Vertex]map[api.Vertex]bool{}
	for v := range m.texts {
		behind[v] = m.behind(v)
	}
	told := map[api.Vertex]bool{}
	last := top
	var out []api.Shown
	for len(out) < len(m.texts) {
		var may, near []api.Vertex
	look:
		for v := range m.texts {
			if told[v] {
				continue
			}
			for u := range m.texts {
				if behind[u][v] && !told[u] {
					continue look
				}
			}
			may = append(may, v)
			if slices.Contains(steps, [2]api.Vertex{last, v}) {
				near = append(near, v)
			}
		}
		if len(near) > 0 {
			may = near
		}
		last = least(may)
		told[last] = true
		out = append(out, api.Shown{Vertex: last, Text: m.texts[last], Kills: len(m.kills[last])})
	}
	return out
}

func (m *model) conflicts() int {
	pairs, ordered := 0, 0
	for a := range m.texts {
		behind := m.behind(a)
		for b := range m.texts {
			if a == b || len(m.kills[a]) > 0 || len(m.kills[b]) > 0 {
				continue
			}
			pairs++
			if behind[b] {
				ordered++
			}
		}
	}
	return pairs/2 - ordered
}

// told is all that a graph tells about some vertices.
type told struct {
	shown     []api.Shown
	text      []string
	length    int
	conflicts int
	has       []bool
	ahead     []bool // of each pair
}

func tell(g *lines.Graph, about []api.Vertex) told {
	t := told{shown: g.Shown(), text: g.Text(), length: g.Len(), conflicts: g.Conflicts()}
	for _, a := range about {
		t.has = append(t.has, g.Has(a))
		for _, b := range about {
			t.ahead = append(t.ahead, g.Ahead(a, b))
		}
	}
	return t
}

func (m *model) tell(about []api.Vertex) told {
	t := told{shown: m.shown(), length: len(m.texts), conflicts: m.conflicts()}
	for _, s := range t.shown {
		if s.Kills == 0 {
			t.text = append(t.text, s.Text)
		}
	}
	for _, a := range about {
		t.has = append(t.has, m.has(a))
		behind := m.behind(a)
		for _, b := range about {
			t.ahead = append(t.ahead, m.has(a) && m.has(b) && behind[b])
		}
	}
	return t
}

func (t told) same(o told) bool {
	return slices.Equal(t.shown, o.shown) && slices.Equal(t.text, o.text) && t.length == o.length &&
		t.conflicts == o.conflicts && slices.Equal(t.has, o.has) && slices.Equal(t.ahead, o.ahead)
}

func holdSame(t *testing.T, what string, got, want told) {
	t.Helper()
	if !got.same(want) {
		t.Fatalf("%s: %v\nnot\n%v", what, got, want)
	}
}

// few are vertices to choose from: Top, Bottom, lines of few patches, and some whose patch is noughts.
func few() []api.Vertex {
	out := []api.Vertex{top, bottom, {Line: 2}, {Line: -1}}
	for p := byte(1); p <= 4; p++ {
		for n := range 3 {
			out = append(out, at(p, n))
		}
	}
	return out
}

// hand gives out vertices by chance.
type hand struct {
	*rand.Rand
	from []api.Vertex
}

func (h hand) any() api.Vertex { return h.from[h.Intn(len(h.from))] }

// there gives one that is there, mostly.
func (h hand) there(g *lines.Graph) api.Vertex {
	v := h.any()
	for !g.Has(v) && h.Intn(9) > 0 {
		v = h.any()
	}
	return v
}

// ids gives up to three, mostly unlike ones that are not there.
func (h hand) ids(g *lines.Graph) []api.Vertex {
	var out []api.Vertex
	for range 1 + h.Intn(3) {
		v := h.any()
		for (g.Has(v) || slices.Contains(out, v)) && h.Intn(30) > 0 {
			v = h.any()
		}
		out = append(out, v)
	}
	return out
}

// additions gives the lines of some additions, mixed, now and then without one of them.
func (h hand) additions(m *model) []api.Vertex {
	var out []api.Vertex
	for _, a := range m.additions {
		if h.Intn(3) == 0 {
			out = append(out, a.ids...)
		}
	}
	h.Shuffle(len(out), func(i, j int) { out[i], out[j] = out[j], out[i] })
	if len(out) > 0 && h.Intn(4) == 0 {
		out = out[1:]
	}
	return out
}

// play makes one call by chance, the same of a graph and of a model, and holds their answers against each other.
func play(t *testing.T, h hand, g *lines.Graph, m *model) {
	t.Helper()
	v, killer := h.there(g), by(byte(h.Intn(3)))
	var got, want api.Errno
	what := ""
	switch h.Intn(16) {
	case 0:
		ids := []api.Vertex{h.any(), h.there(g)}[:h.Intn(3)]
		what = fmt.Sprint("Drop", ids)
		got, want = g.Drop(ids), m.drop(ids)
	case 1:
		ids := h.additions(m)
		what = fmt.Sprint("Drop", ids)
		got, want = g.Drop(ids), m.drop(ids)
	case 2, 3, 4:
		what = fmt.Sprint("Kill", v, killer)
		got, want = g.Kill(v, killer), m.kill(v, killer)
	case 5, 6:
		what = fmt.Sprint("Unkill", v, killer)
		got, want = g.Unkill(v, killer), m.unkill(v, killer)
	default:
		down, ids := h.there(g), h.ids(g)
		texts := make([]string, len(ids)-h.Intn(20)/19)
		for i := range texts {
			texts[i] = fmt.Sprint("t", h.Intn(1000))
		}
		what = fmt.Sprint("Add", v, down, ids, texts)
		got, want = g.Add(v, down, ids, texts), m.add(v, down, ids, texts)
	}
	if got != want {
		t.Fatalf("%s: %d, not %d", what, int(got), int(want))
	}
}

// P11.1 to P11.4: a graph answers what the chapter's words make of the same calls, whatever they are.
func TestGraphAsModel(t *testing.T) {
	h := hand{rand.New(rand.NewSource(1)), few()}
	for range 150 {
		g, m := lines.New(), newModel()
		for range 60 {
			play(t, h, g, m)
			holdSame(t, "by chance", tell(g, h.from), m.tell(h.from))
		}
	}
}

// P11.4, P11.5: greater graphs, whose lines have many patches.
func TestGraphAsModelGreat(t *testing.T) {
	r := rand.New(rand.NewSource(2))
	for range 12 {
		g, m := lines.New(), newModel()
		there := []api.Vertex{top, bottom}
		for len(there) < 60 {
			patch := api.Hash{byte(r.Intn(3)), byte(r.Intn(256)), 31: byte(r.Intn(256))}
			var ids []api.Vertex
			var texts []string
			for n := range 1 + r.Intn(3) {
				ids = append(ids, api.Vertex{Patch: patch, Line: n + 2})
				texts = append(texts, fmt.Sprint(len(there), n))
			}
			up, down := there[r.Intn(len(there))], there[r.Intn(len(there))]
			got, want := g.Add(up, down, ids, texts), m.add(up, down, ids, texts)
			if got != want {
				t.Fatalf("%d, not %d", int(got), int(want))
			}
			if got == api.OK {
				there = append(there, ids...)
			}
			if v := there[r.Intn(len(there))]; g.Kill(v, by(1)) != m.kill(v, by(1)) {
				t.Fatal("Kill")
			}
		}
		holdSame(t, "by chance", tell(g, there), m.tell(there))
		for _, v := range there {
			if g.Ahead(v, v) {
				t.Errorf("%v is ahead of itself", v)
			}
		}
	}
}
