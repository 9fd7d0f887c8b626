package channel_test

import (
	"crypto/sha256"
	"fmt"
	"slices"
	"strings"
	"testing"

	"ingot/api"
	"ingot/channel"
	"ingot/patch"
)

func must(t *testing.T, c *channel.Channel, p api.Patch) api.Hash {
	t.Helper()
	h, e := c.Apply(p)
	if e != api.OK {
		t.Fatalf("Apply of %v: %d", p, int(e))
	}
	return h
}

// refused holds that a patch is not taken, and that nothing has changed.
func refused(t *testing.T, what string, c *channel.Channel, p api.Patch, want api.Errno) {
	t.Helper()
	a := about{append(patch.Paths(p), "p", "q"), c.Log()}
	log, was := c.Log(), tell(c, a)
	h, e := c.Apply(p)
	if e != want || h != (api.Hash{}) {
		t.Errorf("%s: %x %d, not %d", what, h, int(e), int(want))
	}
	if !slices.Equal(c.Log(), log) || !tell(c, a).same(was) {
		t.Errorf("%s: it has changed", what)
	}
}

func textOf(c *channel.Channel, path string) string {
	var out []string
	for _, s := range c.Shown(path) {
		out = append(out, s.Text+strings.Repeat("-", s.Kills))
	}
	return strings.Join(out, " ")
}

func holdText(t *testing.T, c *channel.Channel, path, want string) {
	t.Helper()
	if got := textOf(c, path); got != want {
		t.Errorf("%s: %q, not %q", path, got, want)
	}
}

// The chapter's example; a channel without patches.
func TestExample(t *testing.T) {
	c := channel.New()
	if len(c.Log()) > 0 || len(c.Paths()) > 0 || c.State() != sha256.Sum256(nil) || c.Has(api.Hash{}) {
		t.Error("a new one has something")
	}
	p := patchOf("", add("p", top, bottom, "a"))
	h := must(t, c, p)
	if h != nameOf(t, p) || !slices.Equal(c.Paths(), []string{"p"}) || !slices.Equal(c.Log(), []api.Hash{h}) || c.State() != sha256.Sum256(h[:]) {
		t.Error(h, c.Paths(), c.Log(), c.State())
	}
	holdText(t, c, "p", "a")
}

// ordinary has a patch of the lines one and two in p, and of three in q, and another one that adds and kills in p.
func ordinary(t *testing.T) (c *channel.Channel, h, k api.Hash) {
	t.Helper()
	c = channel.New()
	h = must(t, c, patchOf("", add("p", top, bottom, "one", "two"), add("q", top, bottom, "three")))
	k = must(t, c, patchOf("", add("p", line(h, 0), line(h, 1), "x"), kill("p", line(h, 1))))
	return c, h, k
}

// P13.1: what is no patch is told by patch.Check's error, ahead of all others.
func TestApplyNoPatch(t *testing.T) {
	c, h, _ := ordinary(t)
	good := patchOf("", add("p", line(h, 0), bottom, "y"))
	for _, c2 := range []struct {
		what   string
		change func(p *api.Patch)
		want   api.Errno
	}{
		{"no author", func(p *api.Patch) { p.Author = "" }, api.ErrHead},
		{"no time, and no deps", func(p *api.Patch) { p.Time, p.Deps = -1, nil }, api.ErrHead},
		{"noughts", func(p *api.Patch) { p.Deps = []api.Hash{{}} }, api.ErrDeps},
		{"deps twice", func(p *api.Patch) { p.Deps = []api.Hash{{1}, {1}} }, api.ErrDeps},
		{"no ops", func(p *api.Patch) { p.Ops = nil }, api.ErrOp},
		{"no kind", func(p *api.Patch) { p.Ops[0].Kind = 3 }, api.ErrOp},
		{"no dep", func(p *api.Patch) { p.Deps = []api.Hash{{1}} }, api.ErrOp},
	} {
		p := good
		p.Ops = slices.Clone(good.Ops)
		c2.change(&p)
		refused(t, c2.what, c, p, c2.want)
	}
	must(t, c, good)
}

// P13.1: a patch that is there, deps that are not; of several deps each.
func TestApplyThereAndMissing(t *testing.T) {
	c, h, k := ordinary(t)
	for _, name := range c.Log() {
		p, _ := c.Patch(name)
		refused(t, "there", c, p, api.ErrThere)
	}
	for _, other := range []api.Hash{{1}, {31: 1}, {255, 255}} {
		p := patchOf("", add("p", line(h, 0), bottom, "y"))
		p.Deps = risingOnce([]api.Hash{h, k, other})
		refused(t, "missing", c, p, api.ErrMissing)
	}
	// A dep that is missing comes ahead of an operation's error.
	p := patchOf("", add("p", line(h, 1), line(h, 0), "y"))
	refused(t, "order", c, p, api.ErrOrder)
	p.Deps = risingOnce(append(p.Deps, api.Hash{7}))
	refused(t, "missing ahead of order", c, p, api.ErrMissing)
}

// P13.1: the first error of an operation, whichever it is; what was done ahead of it is taken back.
func TestApplyOperations(t *testing.T) {
	c, h, k := ordinary(t)
	good := []api.Op{
		add("p", top, line(h, 0), "n1", "n2"), add("new", top, bottom, "n3"),
		kill("p", line(h, 1)), kill("q", line(h, 2)), add("p", top, line(h, 0), "n4"),
	}
	for _, bad := range []struct {
		what string
		op   api.Op
		want api.Errno
	}{
		{"turned round", add("p", line(h, 1), line(h, 0), "y"), api.ErrOrder},
		{"turned round, and of two patches", add("p", line(k, 0), line(h, 0), "y"), api.ErrOrder},
		{"up of another path", add("p", line(h, 2), bottom, "y"), api.ErrMissing},
		{"down of another path", add("p", top, line(h, 2), "y"), api.ErrMissing},
		{"up in a path without lines", add("none", line(h, 0), bottom, "y"), api.ErrMissing},
		{"up that its patch has not", add("p", line(h, 3), bottom, "y"), api.ErrMissing},
		{"a line of another path dies", kill("q", line(h, 0)), api.ErrMissing},
		{"a line in a path without lines dies", kill("none", line(h, 0)), api.ErrMissing},
		{"a line that its patch has not dies", kill("p", line(k, 1)), api.ErrMissing},
		{"a line dies twice", kill("p", line(h, 1)), api.ErrThere},
	} {
		if bad.want != api.ErrThere {
			refused(t, bad.what, c, patchOf("", bad.op), bad.want)
		}
		refused(t, bad.what+", behind others", c, patchOf("", append(slices.Clone(good), bad.op)...), bad.want)
		refused(t, bad.what+", between others", c, patchOf("", append(slices.Clone(good), bad.op, kill("none", line(h, 0)), good[0])...), bad.want)
	}
	must(t, c, patchOf("", good...))
	holdText(t, c, "p", "n1 n2 n4 one x two--")
	holdText(t, c, "q", "three-")
	holdText(t, c, "new", "n3")
}

// P13.1: lines count on over all operations of a patch, whatever their paths; a killing has none.
func TestApplyCounts(t *testing.T) {
	c, h, _ := ordinary(t)
	k := must(t, c, patchOf("", add("r", top, bottom, "0", "1"), kill("p", line(h, 0)), add("s", top, bottom, "2"), add("r", top, bottom, "3", "4")))
	for path, want := range map[string][]int{"r": {0, 1, 3, 4}, "s": {2}} {
		shown := c.Shown(path)
		if len(shown) != len(want) {
			t.Fatal(path, shown)
		}
		for i, s := range shown {
			if s != (api.Shown{Vertex: line(k, want[i]), Text: fmt.Sprint(want[i])}) {
				t.Errorf("%s: %v", path, s)
			}
		}
	}
	if c.Conflicts("r") != 4 || c.Conflicts("s") != 0 {
		t.Error(c.Conflicts("r"), c.Conflicts("s"))
	}
	must(t, c, patchOf("", add("r", line(k, 4), bottom, "behind")))
}

func many(n int) []string { return slices.Repeat([]string{"l"}, n) }

// P13.1: MaxPatches may be applied, not one more; errors ahead of that one, and behind it.
func TestApplyLong(t *testing.T) {
	c := channel.New()
	var names []api.Hash
	for i := range api.MaxPatches {
		names = append(names, must(t, c, patchOf(fmt.Sprint(i), add("p/"+fmt.Sprint(i%100), top, bottom, "x"))))
	}
	one := patchOf("more", add("q", top, bottom, "x"))
	refused(t, "one too many", c, one, api.ErrLong)
	p, _ := c.Patch(names[3])
	refused(t, "there", c, p, api.ErrThere)
	refused(t, "missing", c, patchOf("", kill("p/3", line(api.Hash{1}, 0))), api.ErrMissing)
	refused(t, "no operation that may be", c, patchOf("", kill("p/4", line(names[3], 0))), api.ErrLong)
	refused(t, "no patch", c, api.Patch{}, api.ErrHead)
	if e := c.Unapply(names[100]); e != api.OK {
		t.Fatal(int(e))
	}
	must(t, c, one)
	refused(t, "one too many again", c, patchOf("again", add("q", top, bottom, "x")), api.ErrLong)
	if len(c.Log()) != api.MaxPatches {
		t.Error(len(c.Log()))
	}
}

// P13.1: a path's lines, alive and dead, are MaxVertices at most.
func TestApplyManyLines(t *testing.T) {
	c := channel.New()
	for i := range api.MaxVertices / api.MaxLines {
		h := must(t, c, patchOf(fmt.Sprint(i), add("p", top, bottom, many(api.MaxLines)...)))
		must(t, c, patchOf("", kill("p", line(h, 0))))
	}
	refused(t, "one too many", c, patchOf("", add("q", top, bottom, "y"), add("p", top, bottom, "y")), api.ErrLong)
	must(t, c, patchOf("", add("q", top, bottom, "y")))
}

// P13.2: what is not there, what is needed; a patch that is taken back leaves the others in their order.
func TestUnapply(t *testing.T) {
	c, h, k := ordinary(t)
	side := must(t, c, patchOf("", add("p", line(h, 1), bottom, "side"), add("r", top, bottom, "r")))
	last := must(t, c, patchOf("", kill("p", line(h, 0)), kill("p", line(h, 1)), kill("p", line(k, 0))))
	a := about{[]string{"p", "q", "r"}, c.Log()}
	for _, bad := range []struct {
		h    api.Hash
		want api.Errno
	}{{api.Hash{}, api.ErrMissing}, {api.Hash{1}, api.ErrMissing}, {h, api.ErrNeeded}, {k, api.ErrNeeded}} {
		was := tell(c, a)
		if e := c.Unapply(bad.h); e != bad.want || !tell(c, a).same(was) || !slices.Equal(c.Log(), []api.Hash{h, k, side, last}) {
			t.Errorf("%x: %d, not %d", bad.h, int(e), int(bad.want))
		}
	}
	holdText(t, c, "p", "one- x- two-- side")
	for _, step := range []struct {
		h       api.Hash
		log     []api.Hash
		p, r, q string
	}{
		{side, []api.Hash{h, k, last}, "one- x- two--", "", "three"},
		{last, []api.Hash{h, k}, "one x two-", "", "three"},
		{k, []api.Hash{h}, "one two", "", "three"},
		{h, nil, "", "", ""},
	} {
		if e := c.Unapply(step.h); e != api.OK || !slices.Equal(c.Log(), step.log) {
			t.Errorf("%d %x", int(e), c.Log())
		}
		holdText(t, c, "p", step.p)
		holdText(t, c, "q", step.q)
		holdText(t, c, "r", step.r)
		if e := c.Unapply(step.h); e != api.ErrMissing {
			t.Errorf("again: %d", int(e))
		}
	}
	if len(c.Paths()) > 0 || c.State() != sha256.Sum256(nil) {
		t.Error(c.Paths(), c.State())
	}
}

// P13.2: a patch that another one has among its deps is needed, though no operation names its lines.
func TestUnapplyNeededByName(t *testing.T) {
	c, h, k := ordinary(t)
	p := patchOf("", add("r", top, bottom, "r"))
	p.Deps = []api.Hash{k}
	last := must(t, c, p)
	for _, name := range []api.Hash{k, h} {
		if e := c.Unapply(name); e != api.ErrNeeded {
			t.Error(int(e))
		}
	}
	for _, name := range []api.Hash{last, k, h} {
		if e := c.Unapply(name); e != api.OK {
			t.Error(int(e))
		}
	}
}

// P13.2: behind an Unapply the same patch may come again, behind the others; and those of which it needs lines.
func TestApplyAgain(t *testing.T) {
	c, h, k := ordinary(t)
	q, _ := c.Patch(k)
	r := must(t, c, patchOf("", add("r", top, bottom, "r")))
	if e := c.Unapply(k); e != api.OK {
		t.Fatal(int(e))
	}
	if must(t, c, q) != k || !slices.Equal(c.Log(), []api.Hash{h, r, k}) {
		t.Error(c.Log())
	}
	holdText(t, c, "p", "one x two-")
}

// P13.3: State hangs on the set of patches, not on their order, and tells sets apart.
func TestState(t *testing.T) {
	var ps []api.Patch
	for i := range 5 {
		ps = append(ps, patchOf(fmt.Sprint(i), add("p", top, bottom, "x")))
	}
	c, d := channel.New(), channel.New()
	met := map[api.Hash]bool{c.State(): true}
	for i := range ps {
		must(t, c, ps[i])
		must(t, d, ps[len(ps)-1-i])
		if met[c.State()] {
			t.Error("a state came twice")
		}
		met[c.State()] = true
	}
	if c.State() != d.State() || slices.Equal(c.Log(), d.Log()) {
		t.Error(c.State(), d.State())
	}
	var all []byte
	for _, h := range risingOnce(c.Log()) {
		all = append(all, h[:]...)
	}
	if c.State() != sha256.Sum256(all) {
		t.Error(c.State())
	}
}

// P13.3: Patch tells the patch whole; of others nothing.
func TestPatch(t *testing.T) {
	c, h, k := ordinary(t)
	p := patchOf("why", kill("q", line(h, 2)), add("p", line(h, 0), line(k, 0), "", "y"))
	p.Time, p.Author = api.MaxTime, "bob"
	name := must(t, c, p)
	if got, is := c.Patch(name); !is || !patch.Same(got, p) {
		t.Error(got, is)
	}
	for _, no := range []api.Hash{{}, {1}} {
		if got, is := c.Patch(no); is || !patch.Same(got, api.Patch{}) || c.Has(no) {
			t.Error(got, is)
		}
	}
}

// P13.4: paths rise by their bytes; the dead count, and what was never there does not.
func TestPaths(t *testing.T) {
	c := channel.New()
	for i, path := range []string{"b", "a/b", "a", "a-b", "b.", "0"} {
		h := must(t, c, patchOf(fmt.Sprint(i), add(path, top, bottom, "x")))
		must(t, c, patchOf("", kill(path, line(h, 0))))
	}
	want := []string{"0", "a", "a-b", "a/b", "b", "b."}
	if !slices.Equal(c.Paths(), want) {
		t.Errorf("%q", c.Paths())
	}
	for _, path := range []string{"", "c", "a/", "/", "A", "a/b/c"} {
		if len(c.Shown(path)) > 0 || c.Conflicts(path) != 0 || len(c.Touched(path)) > 0 {
			t.Errorf("%q has something", path)
		}
	}
	if !slices.Equal(c.Paths(), want) {
		t.Errorf("%q behind asking for others", c.Paths())
	}
}

// P13.4: who kills or adds in a path touches it, each once, however often; their hashes rise.
func TestTouched(t *testing.T) {
	c, h, k := ordinary(t)
	var p, q []api.Hash
	p = append(p, h, k)
	q = append(q, h)
	for i := range 12 {
		name := must(t, c, patchOf(fmt.Sprint(i), kill("q", line(h, 2)), add("p", top, line(h, 0), "y"), add("p", top, line(h, 0), "z")))
		p, q = append(p, name), append(q, name)
	}
	needs := patchOf("", add("r", top, bottom, "r")) // it needs who touches p, and touches r alone
	needs.Deps = []api.Hash{h}
	r := must(t, c, needs)
	for path, want := range map[string][]api.Hash{"p": p, "q": q, "r": {r}} {
		if got := c.Touched(path); !slices.Equal(got, risingOnce(want)) {
			t.Errorf("%s: %x", path, got)
		}
	}
}

// P13.4: a channel's conflicts are its path's own.
func TestConflicts(t *testing.T) {
	c := channel.New()
	a := must(t, c, patchOf("1", add("p", top, bottom, "a")))
	must(t, c, patchOf("2", add("p", top, bottom, "b"), add("q", top, bottom, "b")))
	if c.Conflicts("p") != 1 || c.Conflicts("q") != 0 {
		t.Error(c.Conflicts("p"), c.Conflicts("q"))
	}
	must(t, c, patchOf("", kill("p", line(a, 0))))
	if c.Conflicts("p") != 0 {
		t.Error(c.Conflicts("p"))
	}
}

// P13.4: a clone has the same, and neither goes the other one's way.
func TestClone(t *testing.T) {
	c, h, k := ordinary(t)
	d := c.Clone()
	a := about{[]string{"p", "q", "r"}, c.Log()}
	was := tell(c, a)
	if !tell(d, a).same(was) || !slices.Equal(d.Log(), c.Log()) {
		t.Error("it has something else")
	}
	must(t, d, patchOf("", kill("q", line(h, 2)), add("r", top, bottom, "r"), add("p", line(k, 0), bottom, "y")))
	if !tell(c, a).same(was) || !slices.Equal(c.Log(), []api.Hash{h, k}) {
		t.Error("the clone's patch came to the channel")
	}
	e := d.Clone()
	if c.Unapply(k) != api.OK || c.Unapply(h) != api.OK || len(c.Paths()) > 0 {
		t.Error("not taken back")
	}
	must(t, c, patchOf("other", add("p", top, bottom, "other")))
	for _, x := range []*channel.Channel{d, e} {
		holdText(t, x, "p", "one x y two-")
		holdText(t, x, "q", "three-")
		if log := x.Log(); len(log) != 3 || log[0] != h || log[1] != k {
			t.Error(log)
		}
	}
	holdText(t, c, "p", "other")
}

// Rule 1: a channel that is nil, or that no call made.
func TestNoChannel(t *testing.T) {
	p := patchOf("", add("p", top, bottom, "a"))
	for _, c := range []*channel.Channel{nil, {}, new(channel.Channel)} {
		for range 2 {
			for _, q := range []api.Patch{p, {}} {
				if h, e := c.Apply(q); e != api.ErrNil || h != (api.Hash{}) {
					t.Error(h, int(e))
				}
			}
			for _, h := range []api.Hash{{}, nameOf(t, p)} {
				if e := c.Unapply(h); e != api.ErrNil {
					t.Error(int(e))
				}
				if q, is := c.Patch(h); is || c.Has(h) || !patch.Same(q, api.Patch{}) {
					t.Error("it has a patch")
				}
			}
			if len(c.Log()) > 0 || c.State() != (api.Hash{}) || len(c.Paths()) > 0 || len(c.Shown("p")) > 0 || c.Conflicts("p") != 0 || len(c.Touched("p")) > 0 || c.Clone() != nil {
				t.Error("it has something")
			}
		}
	}
}

// Rule 4: what is handed in is neither changed nor kept, its spare room neither.
func TestHandedIn(t *testing.T) {
	c, h, _ := ordinary(t)
	deps := append(make([]api.Hash, 0, 3), h)
	texts := append(make([]string, 0, 4), "y", "z")
	ops := append(make([]api.Op, 0, 3), api.Op{Kind: api.OpAdd, Path: "p", Up: line(h, 0), Down: bottom, Lines: texts}, kill("q", line(h, 2)))
	p := api.Patch{Author: "a", Deps: deps, Ops: ops}
	want := patchOf("", add("p", line(h, 0), bottom, "y", "z"), kill("q", line(h, 2)))
	name := must(t, c, p)
	if !patch.Same(p, want) || deps[:2][1] != (api.Hash{}) || texts[:3][2] != "" || ops[:3][2].Kind != 0 {
		t.Error("what was handed in has changed")
	}
	shown := c.Shown("p")
	texts[0], deps[0], ops[1].Path = "other", api.Hash{3}, "other"
	ops[0].Up = api.Vertex{}
	if got, _ := c.Patch(name); !patch.Same(got, want) {
		t.Error("what was handed in is kept")
	}
	if !slices.Equal(c.Shown("p"), shown) || len(c.Touched("other")) > 0 || c.Unapply(h) != api.ErrNeeded {
		t.Error("what was handed in is kept")
	}
	if e := c.Unapply(name); e != api.OK {
		t.Error(int(e))
	}
	holdText(t, c, "q", "three")
	holdText(t, c, "p", "one x two-")
}

// spoil writes over a list, and over its spare room.
func spoil[T any](l []T, with T) {
	for i := range l[:cap(l)] {
		l[:cap(l)][i] = with
	}
}

// Rule 4: what is handed out is new memory, and so is each list in it.
func TestHandedOut(t *testing.T) {
	c, h, k := ordinary(t)
	d := c.Clone()
	a := about{[]string{"p", "q"}, c.Log()}
	was := tell(c, a)
	for range 2 {
		first, _ := c.Patch(h)
		second, _ := c.Patch(h)
		spoil(first.Ops[0].Lines, "bad")
		if len(first.Ops[1].Lines) != 1 || first.Ops[1].Lines[0] != "three" {
			t.Error("two lists share their memory")
		}
		spoil(first.Ops[1].Lines, "bad")
		spoil(first.Ops, api.Op{})
		if !patch.Same(second, patchOf("", add("p", top, bottom, "one", "two"), add("q", top, bottom, "three"))) {
			t.Error("two answers share their memory")
		}
		other, _ := c.Patch(k)
		spoil(other.Deps, api.Hash{})
		spoil(c.Log(), api.Hash{})
		spoil(c.Paths(), "bad")
		spoil(c.Shown("p"), api.Shown{})
		spoil(c.Touched("p"), api.Hash{})
		for _, x := range []*channel.Channel{c, d} {
			if !tell(x, a).same(was) || !slices.Equal(x.Log(), []api.Hash{h, k}) || x.Unapply(h) != api.ErrNeeded {
				t.Error("what was handed out is kept")
			}
		}
	}
}

// Rule 6: lines' numbers and times in their whole range.
func TestAnyNumbers(t *testing.T) {
	c, h, _ := ordinary(t)
	for _, n := range []int{-1 << 63, -1, api.MaxLines, 1<<63 - 1} {
		refused(t, "a line", c, patchOf("", kill("p", line(h, n))), api.ErrOp)
		p := patchOf("", add("p", top, bottom, "x"))
		p.Time = n
		if want := patch.Check(p); want != api.OK {
			refused(t, "a time", c, p, want)
		}
	}
	refused(t, "a line that is not there", c, patchOf("", kill("p", line(h, api.MaxLines-1))), api.ErrMissing)
}

// P13.1: the vertices of lines have the patch's own hash, by which others name them.
func TestVertices(t *testing.T) {
	c, h, k := ordinary(t)
	want := []api.Shown{{Vertex: line(h, 0), Text: "one"}, {Vertex: line(k, 0), Text: "x"}, {Vertex: line(h, 1), Text: "two", Kills: 1}}
	if got := c.Shown("p"); !slices.Equal(got, want) {
		t.Error(got)
	}
}
