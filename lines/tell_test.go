package lines_test

import (
	"fmt"
	"math/rand"
	"slices"
	"testing"

	"ingot/api"
	"ingot/lines"
)

// The chapter's example.
func TestExample(t *testing.T) {
	g := lines.New()
	a, b, c := at(5, 0), at(9, 0), at(2, 0)
	for _, e := range []api.Errno{
		g.Add(top, bottom, ids(a), []string{"a"}),
		g.Add(top, a, ids(b), []string{"b"}),
		g.Add(a, bottom, ids(c), []string{"c"}),
	} {
		hold(t, "Add", e, api.OK)
	}
	if got := g.Text(); !slices.Equal(got, []string{"b", "a", "c"}) || g.Conflicts() != 0 {
		t.Errorf("%q %d", got, g.Conflicts())
	}
	must(t, g, top, a, at(1, 0))
	if g.Conflicts() != 1 {
		t.Error(g.Conflicts())
	}
}

// P11.3, and what a graph without lines has.
func TestEmpty(t *testing.T) {
	g := lines.New()
	if !g.Has(top) || !g.Has(bottom) || g.Has(api.Vertex{Line: 2}) || g.Has(api.Vertex{Line: -1}) || g.Has(at(1, 0)) {
		t.Error("Has")
	}
	if !g.Ahead(top, bottom) || g.Ahead(bottom, top) || g.Ahead(top, top) || g.Ahead(bottom, bottom) {
		t.Error("Ahead")
	}
	if g.Ahead(top, at(1, 0)) || g.Ahead(at(1, 0), bottom) || g.Ahead(at(1, 0), at(1, 0)) || g.Ahead(at(1, 0), at(1, 1)) {
		t.Error("Ahead of what is not there")
	}
	if g.Len() != 0 || len(g.Shown()) != 0 || len(g.Text()) != 0 || g.Conflicts() != 0 {
		t.Error("it has lines")
	}
}

// P11.3: Top is ahead of all, all are ahead of Bottom; steps of different additions lead on to one another.
func TestAhead(t *testing.T) {
	g := ordinary(t)
	must(t, g, at(1, 0), at(3, 0), at(4, 0), at(4, 1))
	must(t, g, at(2, 0), at(3, 0), at(5, 0))
	row := ids(top, at(1, 0), at(2, 0), at(1, 1), at(3, 0), bottom)
	for i, a := range row {
		for j, b := range row {
			if g.Ahead(a, b) != (i < j) {
				t.Errorf("%v %v: %v", a, b, g.Ahead(a, b))
			}
		}
	}
	for _, c := range []struct {
		a, b api.Vertex
		want bool
	}{
		{at(1, 0), at(4, 0), true}, {at(1, 0), at(4, 1), true}, {at(4, 0), at(4, 1), true}, {at(4, 1), at(3, 0), true},
		{at(4, 0), at(3, 0), true}, {at(4, 0), at(1, 1), false}, {at(1, 1), at(4, 0), false}, {at(4, 1), at(4, 0), false},
		{at(2, 0), at(4, 1), false}, {at(4, 1), at(2, 0), false}, {at(1, 0), at(5, 0), true}, {at(5, 0), at(1, 1), false},
		{at(1, 1), at(5, 0), false}, {top, at(4, 1), true}, {at(4, 0), bottom, true}, {bottom, at(4, 0), false},
		{at(4, 0), top, false}, {top, at(9, 0), false}, {at(9, 0), bottom, false}, {at(1, 0), at(9, 0), false},
	} {
		if g.Ahead(c.a, c.b) != c.want {
			t.Errorf("%v %v: %v", c.a, c.b, !c.want)
		}
	}
}

func shownOf(g *lines.Graph) []api.Vertex {
	var out []api.Vertex
	for _, s := range g.Shown() {
		out = append(out, s.Vertex)
	}
	return out
}

// P11.4: of what may come, what a step leads to from the last one comes first, however great it is; else the least of all.
func TestShownFollows(t *testing.T) {
	g := lines.New()
	must(t, g, top, bottom, at(5, 0), at(5, 1))
	must(t, g, top, bottom, at(3, 0), at(3, 1))
	must(t, g, top, bottom, at(4, 7))
	if got := shownOf(g); !slices.Equal(got, ids(at(3, 0), at(3, 1), at(4, 7), at(5, 0), at(5, 1))) {
		t.Error(got)
	}
	must(t, g, at(3, 0), bottom, at(9, 0))
	// 3.0 leads to 3.1 and 9.0: 3.1 is the least; it leads to Bottom alone, so 4.7 comes, the least of all.
	if got := shownOf(g); !slices.Equal(got, ids(at(3, 0), at(3, 1), at(4, 7), at(5, 0), at(5, 1), at(9, 0))) {
		t.Error(got)
	}
	must(t, g, at(3, 1), bottom, at(8, 0), at(8, 1))
	if got := shownOf(g); !slices.Equal(got, ids(at(3, 0), at(3, 1), at(8, 0), at(8, 1), at(4, 7), at(5, 0), at(5, 1), at(9, 0))) {
		t.Error(got)
	}
}

// P11.4: a step that leads to a line all lines ahead of which were not told does not count; dead lines lead on as others.
func TestShownWaits(t *testing.T) {
	g := lines.New()
	must(t, g, top, bottom, at(9, 0), at(2, 0))
	must(t, g, at(9, 0), at(2, 0), at(6, 0))
	must(t, g, at(9, 0), at(2, 0), at(5, 0))
	must(t, g, top, bottom, at(7, 0))
	// 7.0 is the least at first; 9.0 leads to 2.0 too, which waits for 5.0 and 6.0; 5.0 leads to 2.0 alone.
	if got := shownOf(g); !slices.Equal(got, ids(at(7, 0), at(9, 0), at(5, 0), at(6, 0), at(2, 0))) {
		t.Error(got)
	}
	hold(t, "Kill", g.Kill(at(9, 0), by(1)), api.OK)
	hold(t, "Kill", g.Kill(at(5, 0), by(1)), api.OK)
	if got := shownOf(g); !slices.Equal(got, ids(at(7, 0), at(9, 0), at(5, 0), at(6, 0), at(2, 0))) {
		t.Error(got)
	}
	if got := g.Text(); !slices.Equal(got, []string{"7.0", "6.0", "2.0"}) || g.Conflicts() != 2 {
		t.Errorf("%q %d", got, g.Conflicts())
	}
}

// P11.4: a line's down is led to from the addition's last line, also where it is greater than all others.
func TestShownDown(t *testing.T) {
	g := lines.New()
	must(t, g, top, bottom, at(9, 0))
	must(t, g, top, bottom, at(5, 0))
	must(t, g, top, at(9, 0), at(1, 0))
	if got := shownOf(g); !slices.Equal(got, ids(at(1, 0), at(9, 0), at(5, 0))) {
		t.Error(got)
	}
}

// P11.4: least by the patch's bytes, from the first on, as numbers from 0 to 255; then by Line, as a number.
func TestShownLeast(t *testing.T) {
	g := lines.New()
	want := ids(api.Vertex{Line: -7}, api.Vertex{Line: 2}, api.Vertex{Line: 10}, api.Vertex{Patch: by(1), Line: 9},
		api.Vertex{Patch: by(127)}, api.Vertex{Patch: by(128)}, api.Vertex{Patch: by(255)},
		at(1, -1), at(1, 0), at(1, 1), at(1, 9), at(1, 10), at(1, 100), at(2, 0), at(127, 0), at(128, 0), at(255, -1))
	for _, n := range rand.New(rand.NewSource(3)).Perm(len(want)) {
		must(t, g, top, bottom, want[n])
	}
	if got := shownOf(g); !slices.Equal(got, want) {
		t.Error(got)
	}
	if n := len(want); g.Conflicts() != n*(n-1)/2 {
		t.Error(g.Conflicts())
	}
}

// P11.4: conflicts are pairs of living lines, of which there may be many.
func TestConflictsMost(t *testing.T) {
	g := lines.New()
	for n := range api.MaxVertices {
		must(t, g, top, bottom, at(1, n))
	}
	pairs := func(n int) int { return n * (n - 1) / 2 }
	if g.Conflicts() != pairs(api.MaxVertices) {
		t.Error(g.Conflicts())
	}
	for n := range api.MaxVertices {
		hold(t, "Kill", g.Kill(at(1, n), by(1)), api.OK)
		if n%63 == 0 && g.Conflicts() != pairs(api.MaxVertices-n-1) {
			t.Error(n, g.Conflicts())
		}
	}
	if g.Conflicts() != 0 || len(g.Text()) != 0 || len(g.Shown()) != api.MaxVertices {
		t.Error(g.Conflicts())
	}
}

// P11.4: a clone has the same, and goes its own way, as does what it was made of.
func TestClone(t *testing.T) {
	g := ordinary(t)
	hold(t, "Kill", g.Kill(at(1, 1), by(1)), api.OK)
	was := tell(g, about())
	changes := []func(*lines.Graph){
		func(g *lines.Graph) { must(t, g, at(1, 0), at(1, 1), at(9, 0)) },
		func(g *lines.Graph) { must(t, g, at(2, 0), bottom, at(9, 0)) },
		func(g *lines.Graph) { hold(t, "Drop", g.Drop(ids(at(2, 0))), api.OK) },
		func(g *lines.Graph) { hold(t, "Drop", g.Drop(ids(at(3, 0))), api.OK) },
		func(g *lines.Graph) { hold(t, "Kill", g.Kill(at(1, 1), by(2)), api.OK) },
		func(g *lines.Graph) { hold(t, "Kill", g.Kill(at(1, 0), by(2)), api.OK) },
		func(g *lines.Graph) { hold(t, "Unkill", g.Unkill(at(1, 1), by(1)), api.OK) },
	}
	for _, change := range changes {
		c := g.Clone()
		holdSame(t, "a clone", tell(c, about()), was)
		change(c)
		holdSame(t, "what was cloned", tell(g, about()), was)
		if tell(c, about()).same(was) {
			t.Error("a clone does not change")
		}
		h := g.Clone()
		c = h.Clone()
		change(h)
		holdSame(t, "a clone of what changed", tell(c, about()), was)
	}
	c := g.Clone()
	must(t, g, at(1, 0), at(1, 1), at(7, 0))
	must(t, c, at(1, 0), at(1, 1), at(8, 0))
	if g.Has(at(8, 0)) || c.Has(at(7, 0)) || !g.Ahead(at(7, 0), at(1, 1)) || !c.Ahead(at(8, 0), at(1, 1)) || len(c.Shown()) != 5 || len(g.Shown()) != 5 {
		t.Error("they go one way")
	}
}

// P11.6: whoever edits what is shown gets what the same makes of a plain list.
func TestPlainText(t *testing.T) {
	type entry struct {
		v    api.Vertex
		text string
	}
	r := rand.New(rand.NewSource(4))
	for range 60 {
		g := lines.New()
		var plain []entry
		for patch := byte(1); patch < 60; patch++ {
			h := api.Hash{byte(r.Intn(256)), patch}
			if len(plain) > 0 && r.Intn(3) == 0 {
				i := r.Intn(len(plain))
				hold(t, "Kill", g.Kill(plain[i].v, h), api.OK)
				plain = slices.Delete(plain, i, i+1)
			} else {
				i := r.Intn(len(plain) + 1)
				up, down := top, bottom
				if i > 0 {
					up = plain[i-1].v
				}
				if i < len(plain) {
					down = plain[i].v
				}
				var added []entry
				var l []api.Vertex
				var texts []string
				for n := range 1 + r.Intn(3) {
					e := entry{api.Vertex{Patch: h, Line: n}, fmt.Sprint(patch, n)}
					added, l, texts = append(added, e), append(l, e.v), append(texts, e.text)
				}
				hold(t, "Add", g.Add(up, down, l, texts), api.OK)
				plain = slices.Insert(plain, i, added...)
			}
			var want []string
			for _, e := range plain {
				want = append(want, e.text)
			}
			if got := g.Text(); !slices.Equal(got, want) || g.Conflicts() != 0 {
				t.Fatalf("%q, not %q; %d", got, want, g.Conflicts())
			}
		}
	}
}

// chance makes a graph with its model.
func chance(t *testing.T, h hand) (*lines.Graph, *model) {
	t.Helper()
	g, m := lines.New(), newModel()
	for range 30 {
		play(t, h, g, m)
	}
	return g, m
}

// P11.7: two additions that may be made in either order leave the same.
func TestAnyOrder(t *testing.T) {
	h := hand{rand.New(rand.NewSource(5)), few()}
	about := append(few(), at(7, 0), at(7, 1), at(8, 0))
	tried := 0
	for range 2000 {
		g, _ := chance(t, h)
		one, other := g.Clone(), g.Clone()
		a, b, c, d := h.there(g), h.there(g), h.there(g), h.there(g)
		if h.Intn(2) == 0 {
			c, d = a, b
		}
		first := func(g *lines.Graph) api.Errno { return g.Add(a, b, ids(at(7, 0), at(7, 1)), []string{"x", "y"}) }
		second := func(g *lines.Graph) api.Errno { return g.Add(c, d, ids(at(8, 0)), []string{"z"}) }
		if first(one) != api.OK || second(other) != api.OK {
			continue
		}
		tried++
		hold(t, "the second behind the first", second(one), api.OK)
		hold(t, "the first behind the second", first(other), api.OK)
		holdSame(t, "either order", tell(one, about), tell(other, about))
	}
	if tried < 200 {
		t.Error("few were tried:", tried)
	}
}

// P11.8: Drop of what was just added and Unkill of what was just killed leave what was.
func TestTakenBack(t *testing.T) {
	h := hand{rand.New(rand.NewSource(6)), few()}
	about := append(few(), at(7, 0), at(7, 1))
	added, killed := 0, 0
	for range 500 {
		g, m := chance(t, h)
		was := tell(g, about)
		if g.Add(h.there(g), h.there(g), ids(at(7, 0), at(7, 1)), []string{"x", "y"}) == api.OK {
			added++
			hold(t, "Drop", g.Drop(ids(at(7, 1), at(7, 0))), api.OK)
		}
		holdSame(t, "Drop", tell(g, about), was)
		if v := h.there(g); g.Kill(v, by(9)) == api.OK {
			killed++
			hold(t, "Unkill", g.Unkill(v, by(9)), api.OK)
		}
		holdSame(t, "Unkill", tell(g, about), was)
		for range 10 { // and all goes on as if nothing had been
			play(t, h, g, m)
			holdSame(t, "later", tell(g, h.from), m.tell(h.from))
		}
	}
	if added < 100 || killed < 100 {
		t.Error("few were tried:", added, killed)
	}
}
