package lines_test

import (
	"math"
	"slices"
	"strconv"
	"testing"

	"ingot/api"
	"ingot/lines"
)

func ids(l ...api.Vertex) []api.Vertex { return l }

func hold(t *testing.T, what string, got, want api.Errno) {
	t.Helper()
	if got != want {
		t.Errorf("%s: %d, not %d", what, int(got), int(want))
	}
}

// must adds lines whose texts are their patch's byte and their number.
func must(t *testing.T, g *lines.Graph, up, down api.Vertex, l ...api.Vertex) {
	t.Helper()
	if e := g.Add(up, down, l, textsOf(l)); e != api.OK {
		t.Fatalf("Add %v: %d", l, int(e))
	}
}

func textsOf(l []api.Vertex) []string {
	var out []string
	for _, v := range l {
		out = append(out, strconv.Itoa(int(v.Patch[0]))+"."+strconv.Itoa(v.Line))
	}
	return out
}

// ordinary is two lines of the patch 1, a line of the patch 2 between them, one of the patch 3 behind all.
func ordinary(t *testing.T) *lines.Graph {
	t.Helper()
	g := lines.New()
	must(t, g, top, bottom, at(1, 0), at(1, 1))
	must(t, g, at(1, 0), at(1, 1), at(2, 0))
	must(t, g, at(1, 1), bottom, at(3, 0))
	return g
}

func about() []api.Vertex {
	return []api.Vertex{top, bottom, at(1, 0), at(1, 1), at(2, 0), at(3, 0), at(9, 0), {Line: 2}, {Line: -1}}
}

// P11.1: each error of Add, of several the one that is named first, and with an error nothing has changed.
func TestAddErrors(t *testing.T) {
	no := at(8, 8)
	for _, c := range []struct {
		what     string
		up, down api.Vertex
		ids      []api.Vertex
		texts    int
		want     api.Errno
	}{
		{"no ids", top, bottom, nil, 0, api.ErrArg},
		{"no ids but a text", top, bottom, ids(), 1, api.ErrArg},
		{"no ids, and no such line", no, no, nil, 0, api.ErrArg},
		{"a text too few", top, bottom, ids(at(9, 0), at(9, 1)), 1, api.ErrArg},
		{"a text too many", top, bottom, ids(at(9, 0)), 2, api.ErrArg},
		{"no texts", top, bottom, ids(at(9, 0)), 0, api.ErrArg},
		{"a text too few, and there", top, bottom, ids(at(9, 0), at(1, 0)), 1, api.ErrArg},
		{"Top", top, bottom, ids(top), 1, api.ErrArg},
		{"Bottom", top, bottom, ids(at(9, 0), bottom), 2, api.ErrArg},
		{"Top between, and there", top, bottom, ids(at(1, 0), top, at(9, 0)), 3, api.ErrArg},
		{"twice", top, bottom, ids(at(9, 0), at(9, 1), at(9, 0)), 3, api.ErrArg},
		{"there, twice", top, bottom, ids(at(1, 0), at(1, 0)), 2, api.ErrArg},
		{"twice, and no such line", no, bottom, ids(at(9, 0), at(9, 0)), 2, api.ErrArg},
		{"there", top, bottom, ids(at(1, 1)), 1, api.ErrThere},
		{"there, the last one", top, bottom, ids(at(9, 0), at(3, 0)), 2, api.ErrThere},
		{"there, and no such line", no, bottom, ids(at(2, 0)), 1, api.ErrThere},
		{"there, and turned round", bottom, top, ids(at(2, 0)), 1, api.ErrThere},
		{"no up", no, bottom, ids(at(9, 0)), 1, api.ErrMissing},
		{"no down", top, no, ids(at(9, 0)), 1, api.ErrMissing},
		{"no down behind Bottom", bottom, no, ids(at(9, 0)), 1, api.ErrMissing},
		{"no up ahead of Top", no, top, ids(at(9, 0)), 1, api.ErrMissing},
		{"its own line as up", at(9, 0), bottom, ids(at(9, 0), at(9, 1)), 2, api.ErrMissing},
		{"its own line as down", top, at(9, 1), ids(at(9, 0), at(9, 1)), 2, api.ErrMissing},
		{"noughts as up", api.Vertex{Line: 2}, bottom, ids(at(9, 0)), 1, api.ErrMissing},
		{"noughts as down", top, api.Vertex{Line: -1}, ids(at(9, 0)), 1, api.ErrMissing},
		{"Bottom and Top", bottom, top, ids(at(9, 0)), 1, api.ErrOrder},
		{"Top and Top", top, top, ids(at(9, 0)), 1, api.ErrOrder},
		{"Bottom and Bottom", bottom, bottom, ids(at(9, 0)), 1, api.ErrOrder},
		{"a line and itself", at(1, 0), at(1, 0), ids(at(9, 0)), 1, api.ErrOrder},
		{"a line and Top", at(1, 0), top, ids(at(9, 0)), 1, api.ErrOrder},
		{"Bottom and a line", bottom, at(1, 0), ids(at(9, 0)), 1, api.ErrOrder},
		{"turned round", at(1, 1), at(1, 0), ids(at(9, 0)), 1, api.ErrOrder},
		{"turned round, far", at(3, 0), at(1, 0), ids(at(9, 0)), 1, api.ErrOrder},
	} {
		g := ordinary(t)
		was := tell(g, about())
		hold(t, c.what, g.Add(c.up, c.down, c.ids, make([]string, c.texts)), c.want)
		holdSame(t, c.what, tell(g, about()), was)
	}
}

// P11.1: lines of any patch and number but Top's and Bottom's may be there, and any texts.
func TestAddAny(t *testing.T) {
	g := lines.New()
	l := ids(api.Vertex{Line: 2}, api.Vertex{Line: -1}, api.Vertex{Line: math.MinInt}, api.Vertex{Line: math.MaxInt}, at(1, 1), at(1, 0), api.Vertex{Patch: by(1), Line: 1})
	texts := []string{"", "\n", "a\x00", "\xff", "b", "b", ""}
	hold(t, "Add", g.Add(top, bottom, l, texts), api.OK)
	for i, s := range g.Shown() {
		if s != (api.Shown{Vertex: l[i], Text: texts[i]}) {
			t.Errorf("%d: %v", i, s)
		}
	}
	if got := g.Text(); !slices.Equal(got, texts) {
		t.Errorf("%q", got)
	}
}

func many(p byte, n int) []api.Vertex {
	var out []api.Vertex
	for i := range n {
		out = append(out, at(p, i))
	}
	return out
}

// P11.1: MaxVertices lines, alive and dead, may be there, not one more; the other errors come ahead of that one.
func TestAddLong(t *testing.T) {
	g := lines.New()
	all := many(1, api.MaxVertices+1)
	hold(t, "MaxVertices + 1 at once", g.Add(top, bottom, all, make([]string, len(all))), api.ErrLong)
	if g.Len() != 0 {
		t.Error(g.Len())
	}
	all = all[:api.MaxVertices-1]
	must(t, g, top, bottom, all...)
	hold(t, "two more", g.Add(top, bottom, many(2, 2), []string{"", ""}), api.ErrLong)
	hold(t, "one more", g.Add(at(1, 7), at(1, 8), many(2, 1), []string{""}), api.OK)
	hold(t, "one too many", g.Add(top, bottom, many(3, 1), []string{""}), api.ErrLong)
	hold(t, "ErrOrder first", g.Add(bottom, top, many(3, 1), []string{""}), api.ErrOrder)
	hold(t, "ErrMissing first", g.Add(at(3, 0), top, many(3, 1), []string{""}), api.ErrMissing)
	hold(t, "ErrThere first", g.Add(top, bottom, many(2, 1), []string{""}), api.ErrThere)
	if g.Len() != api.MaxVertices || g.Conflicts() != 0 || !g.Ahead(at(1, 0), at(1, api.MaxVertices-2)) {
		t.Error(g.Len(), g.Conflicts())
	}
	hold(t, "Kill", g.Kill(at(1, 3), by(1)), api.OK)
	hold(t, "the dead count", g.Add(top, bottom, many(3, 1), []string{""}), api.ErrLong)
	hold(t, "Drop", g.Drop(many(2, 1)), api.OK)
	hold(t, "room again", g.Add(top, bottom, many(3, 1), []string{""}), api.OK)
	if g.Len() != api.MaxVertices || g.Conflicts() != api.MaxVertices-2 {
		t.Error(g.Len(), g.Conflicts())
	}
	hold(t, "very many", g.Add(top, bottom, many(4, 1<<16), make([]string, 1<<16)), api.ErrLong)
}

// P11.1: each error of Drop, of several the one that is named first, and with an error nothing has changed.
func TestDropErrors(t *testing.T) {
	for _, c := range []struct {
		what string
		ids  []api.Vertex
		want api.Errno
	}{
		{"none", nil, api.ErrArg},
		{"none", ids(), api.ErrArg},
		{"Top", ids(top), api.ErrArg},
		{"Bottom behind", ids(at(2, 0), bottom), api.ErrArg},
		{"Top, and none", ids(at(9, 0), top), api.ErrArg},
		{"twice", ids(at(2, 0), at(2, 0)), api.ErrArg},
		{"twice, and none", ids(at(9, 0), at(9, 0)), api.ErrArg},
		{"no line", ids(at(9, 0)), api.ErrMissing},
		{"noughts", ids(api.Vertex{Line: 2}), api.ErrMissing},
		{"no line behind", ids(at(2, 0), at(2, 1)), api.ErrMissing},
		{"no line, and a part", ids(at(1, 0), at(9, 0)), api.ErrMissing},
		{"the first part", ids(at(1, 0)), api.ErrNeeded},
		{"the last part", ids(at(1, 1)), api.ErrNeeded},
		{"a whole one that is needed", ids(at(1, 0), at(1, 1)), api.ErrNeeded},
		{"and one of those that need it", ids(at(1, 0), at(1, 1), at(2, 0)), api.ErrNeeded},
		{"and the other one", ids(at(1, 0), at(1, 1), at(3, 0)), api.ErrNeeded},
		{"a part with a whole one", ids(at(2, 0), at(1, 0)), api.ErrNeeded},
		{"a part with all others", ids(at(2, 0), at(3, 0), at(1, 1)), api.ErrNeeded},
	} {
		g := ordinary(t)
		was := tell(g, about())
		hold(t, c.what, g.Drop(c.ids), c.want)
		holdSame(t, c.what, tell(g, about()), was)
	}
}

// P11.1: additions go alone and together, whatever the order of their lines, also with those that need them.
func TestDrop(t *testing.T) {
	for _, c := range []struct {
		ids  []api.Vertex
		text []string
	}{
		{ids(at(2, 0)), []string{"1.0", "1.1", "3.0"}},
		{ids(at(3, 0)), []string{"1.0", "2.0", "1.1"}},
		{ids(at(3, 0), at(2, 0)), []string{"1.0", "1.1"}},
		{ids(at(3, 0), at(1, 1), at(2, 0), at(1, 0)), nil},
		{ids(at(1, 0), at(1, 1), at(2, 0), at(3, 0)), nil},
	} {
		g := ordinary(t)
		hold(t, "Drop", g.Drop(c.ids), api.OK)
		if got := g.Text(); !slices.Equal(got, c.text) || g.Len() != len(c.text) || g.Conflicts() != 0 {
			t.Errorf("%v: %q", c.ids, got)
		}
		for _, v := range c.ids {
			if g.Has(v) || g.Ahead(top, v) || g.Ahead(v, bottom) || g.Kill(v, by(1)) != api.ErrMissing {
				t.Errorf("%v is there still", v)
			}
		}
	}
}

// P11.1: an addition that stands between lines of two others needs both; a middle line's part is a part too.
func TestDropBetween(t *testing.T) {
	g := lines.New()
	must(t, g, top, bottom, at(1, 0), at(1, 1), at(1, 2))
	must(t, g, at(1, 2), bottom, at(2, 0))
	must(t, g, at(1, 1), at(2, 0), at(3, 0), at(3, 1))
	hold(t, "its down", g.Drop(ids(at(2, 0))), api.ErrNeeded)
	hold(t, "its up", g.Drop(ids(at(1, 0), at(1, 1), at(1, 2), at(2, 0))), api.ErrNeeded)
	hold(t, "the middle", g.Drop(ids(at(1, 1))), api.ErrNeeded)
	hold(t, "the middle's both sides", g.Drop(ids(at(1, 0), at(1, 2))), api.ErrNeeded)
	hold(t, "both", g.Drop(ids(at(3, 1), at(2, 0), at(3, 0))), api.OK)
	hold(t, "what is left", g.Drop(ids(at(1, 2), at(1, 1), at(1, 0))), api.OK)
	if g.Len() != 0 || g.Has(at(1, 0)) || !g.Ahead(top, bottom) {
		t.Error(g.Len())
	}
}

// P11.1: what was dropped may come again, elsewhere, with nothing left of what it was.
func TestDropAndAdd(t *testing.T) {
	g := ordinary(t)
	hold(t, "Kill", g.Kill(at(3, 0), by(1)), api.OK)
	hold(t, "Drop", g.Drop(ids(at(3, 0))), api.OK)
	hold(t, "Add", g.Add(top, at(1, 0), ids(at(3, 0)), []string{"new"}), api.OK)
	if got := g.Shown()[0]; got != (api.Shown{Vertex: at(3, 0), Text: "new"}) {
		t.Error(got)
	}
	if g.Ahead(at(1, 1), at(3, 0)) || !g.Ahead(at(3, 0), at(1, 1)) {
		t.Error("it stands where it stood")
	}
	hold(t, "Drop", g.Drop(ids(at(3, 0), at(2, 0))), api.OK)
	hold(t, "Drop", g.Drop(ids(at(1, 1), at(1, 0))), api.OK)
	must(t, g, top, bottom, at(1, 1), at(1, 0))
	if g.Ahead(at(1, 0), at(1, 1)) || !g.Ahead(at(1, 1), at(1, 0)) {
		t.Error("they stand as they stood")
	}
}

// P11.2: each error of Kill and Unkill, of several the one that is named first.
func TestKillErrors(t *testing.T) {
	g := ordinary(t)
	hold(t, "Kill", g.Kill(at(2, 0), by(1)), api.OK)
	was := tell(g, about())
	for _, v := range ids(top, bottom) {
		hold(t, "Kill of an end", g.Kill(v, by(1)), api.ErrArg)
		hold(t, "Unkill of an end", g.Unkill(v, by(1)), api.ErrArg)
	}
	for _, v := range ids(at(9, 0), at(2, 1), api.Vertex{Line: 2}, api.Vertex{Line: -1}) {
		hold(t, "Kill of no line", g.Kill(v, by(1)), api.ErrMissing)
		hold(t, "Unkill of no line", g.Unkill(v, by(1)), api.ErrMissing)
	}
	hold(t, "Kill twice", g.Kill(at(2, 0), by(1)), api.ErrThere)
	hold(t, "Unkill by another one", g.Unkill(at(2, 0), by(2)), api.ErrMissing)
	hold(t, "Unkill by its own patch", g.Unkill(at(2, 0), at(2, 0).Patch), api.ErrMissing)
	hold(t, "Unkill of another one", g.Unkill(at(1, 0), by(1)), api.ErrMissing)
	holdSame(t, "errors", tell(g, about()), was)
}

// P11.2: a line is killed by as many patches as there are, any of them; it is alive again behind the last Unkill.
func TestKills(t *testing.T) {
	g := ordinary(t)
	killers := []api.Hash{{}, by(1), {1}, {2}, by(255)}
	for i, h := range killers {
		hold(t, "Kill", g.Kill(at(2, 0), h), api.OK)
		if s := g.Shown()[1]; s.Kills != i+1 || s.Vertex != at(2, 0) || s.Text != "2.0" {
			t.Error(s)
		}
		if got := g.Text(); !slices.Equal(got, []string{"1.0", "1.1", "3.0"}) {
			t.Errorf("%q", got)
		}
	}
	for i, h := range killers {
		if len(g.Text()) != 3 {
			t.Errorf("it is alive behind %d", i)
		}
		hold(t, "Unkill", g.Unkill(at(2, 0), h), api.OK)
		hold(t, "Unkill twice", g.Unkill(at(2, 0), h), api.ErrMissing)
		if s := g.Shown()[1]; s.Kills != len(killers)-i-1 {
			t.Error(s)
		}
	}
	if len(g.Text()) != 4 {
		t.Error("it is dead still")
	}
	hold(t, "Kill again", g.Kill(at(2, 0), by(1)), api.OK)
}

// P11.1: lines may come next to dead ones, which keep their places.
func TestAddToDead(t *testing.T) {
	g := ordinary(t)
	for _, v := range ids(at(1, 0), at(1, 1)) {
		hold(t, "Kill", g.Kill(v, by(1)), api.OK)
	}
	must(t, g, at(1, 0), at(2, 0), at(4, 0))
	must(t, g, at(1, 1), at(3, 0), at(5, 0))
	if got := g.Text(); !slices.Equal(got, []string{"4.0", "2.0", "5.0", "3.0"}) || g.Conflicts() != 0 {
		t.Errorf("%q %d", got, g.Conflicts())
	}
	hold(t, "Drop of dead ones", g.Drop(ids(at(1, 0), at(1, 1))), api.ErrNeeded)
}

// Rule 1: of a graph that no call made.
func TestNoGraph(t *testing.T) {
	for _, g := range []*lines.Graph{nil, {}} {
		hold(t, "Add", g.Add(top, bottom, ids(at(1, 0)), []string{"a"}), api.ErrNil)
		hold(t, "Add of what may not be", g.Add(top, bottom, nil, nil), api.ErrNil)
		hold(t, "Drop", g.Drop(ids(at(1, 0))), api.ErrNil)
		hold(t, "Drop of nothing", g.Drop(nil), api.ErrNil)
		hold(t, "Kill", g.Kill(at(1, 0), by(1)), api.ErrNil)
		hold(t, "Kill of Top", g.Kill(top, by(1)), api.ErrNil)
		hold(t, "Unkill", g.Unkill(at(1, 0), by(1)), api.ErrNil)
		hold(t, "Unkill of Bottom", g.Unkill(bottom, by(1)), api.ErrNil)
		if g.Has(top) || g.Has(bottom) || g.Has(at(1, 0)) || g.Ahead(top, bottom) || g.Len() != 0 {
			t.Error("it has something")
		}
		if len(g.Shown()) != 0 || len(g.Text()) != 0 || g.Conflicts() != 0 || g.Clone() != nil {
			t.Error("it tells something")
		}
	}
}

// Rules 4 and 8: what is handed in is neither changed nor kept, its spare room neither read nor written.
func TestHandedIn(t *testing.T) {
	g := ordinary(t)
	room := []api.Vertex{at(5, 0), at(5, 1), at(6, 0), top}
	texts := []string{"a", "b", "c", "d"}
	hold(t, "Add", g.Add(at(2, 0), at(1, 1), room[:2], texts[:2]), api.OK)
	hold(t, "Drop of a part", g.Drop(room[:1]), api.ErrNeeded)
	if !slices.Equal(room, ids(at(5, 0), at(5, 1), at(6, 0), top)) || !slices.Equal(texts, []string{"a", "b", "c", "d"}) {
		t.Error(room, texts)
	}
	room[0], room[1], texts[0], texts[1] = at(7, 0), at(7, 1), "x", "y"
	if got := g.Text(); !slices.Equal(got, []string{"1.0", "2.0", "a", "b", "1.1", "3.0"}) || g.Has(at(7, 0)) || g.Has(at(6, 0)) {
		t.Errorf("%q", got)
	}
	room[0], room[1] = at(5, 1), at(5, 0)
	hold(t, "Drop", g.Drop(room[:2]), api.OK)
	if !slices.Equal(room, ids(at(5, 1), at(5, 0), at(6, 0), top)) {
		t.Error(room)
	}
}

// Rule 4: what is handed out is new memory.
func TestHandedOut(t *testing.T) {
	g := ordinary(t)
	was := tell(g, about())
	for range 2 {
		shown, text := g.Shown(), g.Text()
		clear(shown[:cap(shown)])
		clear(text[:cap(text)])
		holdSame(t, "handed out", tell(g, about()), was)
	}
}
