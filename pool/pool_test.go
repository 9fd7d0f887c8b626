package pool_test

import (
	"fmt"
	"maps"
	"slices"
	"testing"

	"ingot/api"
	"ingot/patch"
	"ingot/pool"
)

func want(t *testing.T, what string, got, is api.Errno) {
	t.Helper()
	if got != is {
		t.Errorf("%s: %d, not %d", what, int(got), int(is))
	}
}

func must(t *testing.T, p *pool.Pool, name string, q api.Patch) api.Hash {
	t.Helper()
	h, e := p.Apply(name, q)
	if e != api.OK {
		t.Fatalf("Apply to %s of %v: %d", name, q, int(e))
	}
	return h
}

// The chapter's example; a pool without channels.
func TestExample(t *testing.T) {
	p := pool.New()
	hold(t, "a new one", p, model{})
	want(t, "Make", p.Make("a"), api.OK)
	q := adding("one", "p")
	h := must(t, p, "a", q)
	want(t, "Fork", p.Fork("a", "b"), api.OK)
	b, _ := patch.Encode(q)
	pairs := []api.Pair{{Key: "c/a", Value: string(h[:])}, {Key: "c/b", Value: string(h[:])}, {Key: "p/" + fmt.Sprintf("%x", h[:]), Value: string(b)}}
	if got := p.Pairs(); !slices.Equal(got, pairs) {
		t.Errorf("%q", got)
	}
	if p.Bytes() != len(b) {
		t.Error(p.Bytes())
	}
}

// ordinary has the channels main and side. Main has one, two that needs it, three that needs both, other; side has other
// and own.
type ordinary struct {
	*pool.Pool
	m                           model
	one, two, three, other, own api.Hash
}

func newOrdinary(t *testing.T) ordinary {
	t.Helper()
	o := ordinary{Pool: pool.New(), m: model{}}
	for _, name := range []string{"main", "side"} {
		want(t, "Make", o.Make(name), o.m.make(name))
	}
	put := func(name string, q api.Patch) api.Hash {
		o.m.apply(name, q)
		return must(t, o.Pool, name, q)
	}
	o.one = put("main", adding("one", "p"))
	o.two = put("main", adding("two", "p", o.one))
	o.other = put("main", adding("other", "q"))
	o.three = put("main", adding("three", "r", o.one, o.two))
	put("side", adding("other", "q"))
	o.own = put("side", adding("own", "p"))
	return o
}

// P14.1: each error, of several the one that is named first; with an error nothing has changed.
func TestMakeForkDropErrors(t *testing.T) {
	o := newOrdinary(t)
	for _, name := range []string{"", "Main", "0a", "-a", "a/b", "a.b", "main ", "abcdefghijklmnopq", "\xff"} {
		want(t, "Make", o.Make(name), api.ErrName)
		want(t, "Fork", o.Fork("main", name), api.ErrName)
		want(t, "Fork of none", o.Fork(name, name), api.ErrMissing)
		want(t, "Drop", o.Drop(name), api.ErrMissing)
	}
	want(t, "Make", o.Make("main"), api.ErrThere)
	want(t, "Fork", o.Fork("main", "side"), api.ErrThere)
	want(t, "Fork to itself", o.Fork("main", "main"), api.ErrThere)
	want(t, "Fork of none", o.Fork("none", "new"), api.ErrMissing)
	want(t, "Fork of none to what is there", o.Fork("none", "main"), api.ErrMissing)
	want(t, "Drop", o.Drop("none"), api.ErrMissing)
	hold(t, "behind errors", o.Pool, o.m)
}

// P14.1: MaxChannels may be there, not one more.
func TestMakeLong(t *testing.T) {
	o := newOrdinary(t)
	for i := range api.MaxChannels - 2 {
		name := "abcdefghijklmno" + fmt.Sprint(i) // as long as a name may be
		want(t, "Make", o.Make(name), o.m.make(name))
	}
	hold(t, "full", o.Pool, o.m)
	want(t, "Make", o.Make("more"), api.ErrLong)
	want(t, "Fork", o.Fork("main", "more"), api.ErrLong)
	want(t, "Make of what is there", o.Make("main"), api.ErrThere)
	want(t, "Fork to what is there", o.Fork("main", "side"), api.ErrThere)
	want(t, "Make of no name", o.Make("More"), api.ErrName)
	want(t, "Fork to no name", o.Fork("main", "More"), api.ErrName)
	want(t, "Fork of none", o.Fork("none", "more"), api.ErrMissing)
	hold(t, "behind errors", o.Pool, o.m)
	want(t, "Drop", o.Drop("side"), o.m.drop("side"))
	want(t, "Fork", o.Fork("main", "more"), o.m.fork("main", "more"))
	want(t, "Make", o.Make("side"), api.ErrLong)
	hold(t, "full again", o.Pool, o.m)
}

// P14.1: a fork has all that the other one has, its order too, and goes its own way; what is dropped is gone.
func TestForkAndDrop(t *testing.T) {
	o := newOrdinary(t)
	want(t, "Fork", o.Fork("main", "copy"), o.m.fork("main", "copy"))
	hold(t, "forked", o.Pool, o.m)
	want(t, "Unapply", o.Unapply("copy", o.three), o.m.unapply("copy", o.three))
	must(t, o.Pool, "main", adding("new", "p", o.two))
	o.m.apply("main", adding("new", "p", o.two))
	hold(t, "went their ways", o.Pool, o.m)
	want(t, "Drop", o.Drop("main"), o.m.drop("main"))
	hold(t, "dropped", o.Pool, o.m)
	want(t, "Drop again", o.Drop("main"), api.ErrMissing)
	want(t, "Make", o.Make("main"), o.m.make("main"))
	hold(t, "a new one of that name has nothing", o.Pool, o.m)
}

// P14.2: no such channel, ahead of channel's errors; then those.
func TestApplyAndUnapply(t *testing.T) {
	o := newOrdinary(t)
	for _, c := range []struct {
		what, name string
		q          api.Patch
		want       api.Errno
	}{
		{"no channel", "none", adding("new", "p"), api.ErrMissing},
		{"no channel, and no patch", "none", api.Patch{}, api.ErrMissing},
		{"no channel, and no name", "", api.Patch{}, api.ErrMissing},
		{"no patch", "main", api.Patch{}, api.ErrHead},
		{"there", "main", adding("one", "p"), api.ErrThere},
		{"missing", "side", adding("two", "p", o.one), api.ErrMissing},
		{"no line", "main", api.Patch{Author: "a", Deps: []api.Hash{o.one}, Ops: []api.Op{{Kind: api.OpKill, Path: "q", Up: line(o.one, 0)}}}, api.ErrMissing},
	} {
		h, e := o.Apply(c.name, c.q)
		want(t, c.what, e, c.want)
		if h != (api.Hash{}) {
			t.Errorf("%s: %x", c.what, h)
		}
	}
	want(t, "no channel", o.Unapply("none", o.one), api.ErrMissing)
	want(t, "no patch", o.Unapply("side", o.one), api.ErrMissing)
	want(t, "needed", o.Unapply("main", o.two), api.ErrNeeded)
	hold(t, "behind errors", o.Pool, o.m)
	want(t, "Unapply", o.Unapply("main", o.other), o.m.unapply("main", o.other))
	hold(t, "the other channel has it still", o.Pool, o.m)
	want(t, "Unapply", o.Unapply("side", o.other), o.m.unapply("side", o.other))
	hold(t, "no channel has it", o.Pool, o.m)
}

// P14.3, P14.8: h, all that it needs and nothing else comes, in deps' order.
func TestPull(t *testing.T) {
	o := newOrdinary(t)
	for _, c := range []struct {
		what, from, to string
		h              api.Hash
		want           api.Errno
	}{
		{"no from", "none", "side", o.one, api.ErrMissing},
		{"no to", "main", "none", o.one, api.ErrMissing},
		{"neither", "none", "none", o.one, api.ErrMissing},
		{"no patch", "main", "side", api.Hash{1}, api.ErrMissing},
		{"noughts", "main", "side", api.Hash{}, api.ErrMissing},
		{"only to has it", "main", "side", o.own, api.ErrMissing},
		{"both have it", "main", "side", o.other, api.ErrThere},
		{"from and to are one", "main", "main", o.one, api.ErrThere},
		{"from and to are one that has it not", "side", "side", o.one, api.ErrMissing},
	} {
		l, e := o.Pull(c.from, c.to, c.h)
		want(t, c.what, e, c.want)
		if len(l) > 0 {
			t.Errorf("%s: %x", c.what, l)
		}
	}
	hold(t, "behind errors", o.Pool, o.m)
	for _, h := range []api.Hash{o.two, o.three} {
		got, e := o.Pull("main", "side", h)
		order, is := o.m.pull("main", "side", h)
		want(t, "Pull", e, is)
		if !slices.Equal(got, order) || got[len(got)-1] != h {
			t.Errorf("%x, not %x", got, order)
		}
		hold(t, "pulled", o.Pool, o.m)
	}
	if log := o.Channel("side").Log(); !slices.Equal(log, []api.Hash{o.other, o.own, o.one, o.two, o.three}) {
		t.Errorf("%x", log)
	}
}

// P14.3: the order is deps', not that in which the patches came; those that the channel has do not count.
func TestPullOrder(t *testing.T) {
	p, m := pool.New(), model{}
	for _, name := range []string{"a", "b", "c"} {
		want(t, "Make", p.Make(name), m.make(name))
	}
	var roots []api.Hash
	for i := range 12 {
		q := adding(fmt.Sprint(i), "p")
		m.apply("a", q)
		roots = append(roots, must(t, p, "a", q))
	}
	last := adding("last", "q", roots...)
	m.apply("a", last)
	h := must(t, p, "a", last)
	for i, from := range []string{"b", "c"} {
		for _, root := range roots[:4*i] {
			got, e := p.Pull("a", from, root)
			want(t, "Pull", e, api.OK)
			order, _ := m.pull("a", from, root)
			if !slices.Equal(got, order) || len(got) != 1 {
				t.Errorf("%x", got)
			}
		}
		got, e := p.Pull("a", from, h)
		want(t, "Pull", e, api.OK)
		rest := append(slices.SortedFunc(slices.Values(roots[4*i:]), compare), h)
		if !slices.Equal(got, rest) {
			t.Errorf("%x, not %x", got, rest)
		}
		m.pull("a", from, h)
		hold(t, "pulled", p, m)
	}
}

// P14.3: where one of the patches is not taken nothing has changed: too many patches, too many lines.
func TestPullLong(t *testing.T) {
	o := newOrdinary(t)
	want(t, "Make", o.Make("full"), o.m.make("full"))
	for i := range api.MaxPatches - 2 {
		q := adding(fmt.Sprint(i), "x/"+fmt.Sprint(i%100))
		o.m["full"] = append(o.m["full"], q)
		must(t, o.Pool, "full", q)
	}
	l, e := o.Pull("main", "full", o.three)
	want(t, "three patches, room for two", e, api.ErrLong)
	if len(l) > 0 {
		t.Errorf("%x", l)
	}
	hold(t, "behind too many patches", o.Pool, o.m)
	l, e = o.Pull("main", "full", o.two)
	want(t, "two patches", e, api.OK)
	if !slices.Equal(l, []api.Hash{o.one, o.two}) {
		t.Errorf("%x", l)
	}
	o.m.pull("main", "full", o.two)
	hold(t, "full", o.Pool, o.m)
	_, e = o.Pull("main", "full", o.three)
	want(t, "full", e, api.ErrLong)

	want(t, "Make", o.Make("lines"), o.m.make("lines"))
	for i := range api.MaxVertices / api.MaxLines {
		q := adding(fmt.Sprint(i), "r")
		q.Ops[0].Lines = slices.Repeat([]string{"l"}, api.MaxLines)
		o.m.apply("lines", q)
		must(t, o.Pool, "lines", q)
	}
	_, e = o.Pull("main", "lines", o.three) // its one and two are taken, it itself is not
	want(t, "too many lines", e, api.ErrLong)
	hold(t, "behind too many lines", o.Pool, o.m)
}

// P14.4: names rise by their bytes; a channel that is handed out goes its own way, and so does the pool.
func TestNamesAndChannel(t *testing.T) {
	p := pool.New()
	all := []string{"b", "ab", "a", "a-b", "a0", "z", "aa"}
	for _, name := range all {
		want(t, "Make", p.Make(name), api.OK)
	}
	if got := p.Names(); !slices.Equal(got, []string{"a", "a-b", "a0", "aa", "ab", "b", "z"}) {
		t.Errorf("%q", got)
	}
	o := newOrdinary(t)
	c, d := o.Channel("main"), o.Channel("main")
	if c.Unapply(o.three) != api.OK || c.Unapply(o.two) != api.OK {
		t.Error("not taken back")
	}
	if _, e := c.Apply(adding("new", "p")); e != api.OK {
		t.Error(int(e))
	}
	hold(t, "behind a channel's changes", o.Pool, o.m)
	was := o.m.channel("main")
	want(t, "Unapply", o.Unapply("main", o.three), api.OK)
	want(t, "Drop", o.Drop("main"), api.OK)
	holdChannel(t, "behind the pool's changes", d, was)
	for _, name := range []string{"none", "main", "", "Main"} {
		if o.Channel(name) != nil {
			t.Error(name)
		}
	}
}

// P14.4: a patch that several channels have counts once, and not any more when none has it.
func TestBytes(t *testing.T) {
	o := newOrdinary(t)
	size := func(h api.Hash, name string) int {
		q, _ := o.Channel(name).Patch(h)
		b, _ := patch.Encode(q)
		return len(b)
	}
	sum := size(o.one, "main") + size(o.two, "main") + size(o.three, "main") + size(o.other, "main") + size(o.own, "side")
	own := size(o.own, "side")
	if o.Bytes() != sum {
		t.Error(o.Bytes(), sum)
	}
	want(t, "Fork", o.Fork("main", "copy"), api.OK)
	if o.Bytes() != sum {
		t.Error("a fork has bytes of its own")
	}
	want(t, "Drop", o.Drop("main"), api.OK)
	if o.Bytes() != sum {
		t.Error("the fork has its patches no more")
	}
	want(t, "Drop", o.Drop("side"), api.OK)
	if o.Bytes() != sum-own {
		t.Error(o.Bytes(), sum-own)
	}
}

// corrupt holds that pairs are those of no pool.
func corrupt(t *testing.T, what string, l []api.Pair) {
	t.Helper()
	p, e := pool.Load(l)
	if p != nil || e != api.ErrCorrupt {
		t.Errorf("%s: %d", what, int(e))
	}
}

func pairOf(t *testing.T, q api.Patch) api.Pair {
	t.Helper()
	b, e := patch.Encode(q)
	if e != api.OK {
		t.Fatal(int(e))
	}
	h := nameOf(t, q)
	return api.Pair{Key: "p/" + fmt.Sprintf("%x", h[:]), Value: string(b)}
}

// pairsOf lays out channels as the chapter does, with all these patches, whether or not they may stand so.
func pairsOf(t *testing.T, channels map[string][]api.Hash, l ...api.Patch) []api.Pair {
	t.Helper()
	all := map[string]string{}
	for name, log := range channels {
		value := ""
		for _, h := range log {
			value += string(h[:])
		}
		all["c/"+name] = value
	}
	for _, q := range l {
		pair := pairOf(t, q)
		all[pair.Key] = pair.Value
	}
	var out []api.Pair
	for _, key := range slices.Sorted(maps.Keys(all)) {
		out = append(out, api.Pair{Key: key, Value: all[key]})
	}
	return out
}

// P14.6, P14.7: a pool that has just these pairs; with all that it has it goes on.
func TestLoad(t *testing.T) {
	for _, l := range [][]api.Pair{nil, {}} {
		p, e := pool.Load(l)
		want(t, "nothing", e, api.OK)
		hold(t, "nothing", p, model{})
		want(t, "Make", p.Make("a"), api.OK)
	}
	p, e := pool.Load([]api.Pair{{Key: "c/a"}, {Key: "c/b"}})
	want(t, "empty channels", e, api.OK)
	hold(t, "empty channels", p, model{"a": nil, "b": nil})
	o := newOrdinary(t)
	p, e = pool.Load(o.Pairs())
	want(t, "ordinary", e, api.OK)
	hold(t, "ordinary", p, o.m)
	want(t, "needed", p.Unapply("main", o.two), api.ErrNeeded)
	want(t, "Unapply", p.Unapply("main", o.three), o.m.unapply("main", o.three))
	hold(t, "goes on", p, o.m)
	if got := o.Channel("main"); !got.Has(o.three) {
		t.Error("two pools are one")
	}
}

// P14.6: logs that no channel can have, and patches that are too many or too few.
func TestLoadLogs(t *testing.T) {
	one := adding("one", "p")
	h := nameOf(t, one)
	two := adding("two", "p", h)
	k := nameOf(t, two)
	bad := api.Patch{Author: "a", Deps: []api.Hash{h}, Ops: []api.Op{{Kind: api.OpKill, Path: "q", Up: line(h, 0)}}}
	b := nameOf(t, bad)
	for _, c := range []struct {
		what     string
		channels map[string][]api.Hash
		patches  []api.Patch
		want     api.Errno
	}{
		{"both", map[string][]api.Hash{"a": {h, k}}, []api.Patch{one, two}, api.OK},
		{"one each", map[string][]api.Hash{"a": {h}, "b": {h, k}, "c": nil}, []api.Patch{one, two}, api.OK},
		{"turned round", map[string][]api.Hash{"a": {k, h}}, []api.Patch{one, two}, api.ErrCorrupt},
		{"twice", map[string][]api.Hash{"a": {h, h}}, []api.Patch{one}, api.ErrCorrupt},
		{"without what it needs", map[string][]api.Hash{"a": {k}}, []api.Patch{two}, api.ErrCorrupt},
		{"what it needs is in another channel", map[string][]api.Hash{"a": {k}, "b": {h}}, []api.Patch{one, two}, api.ErrCorrupt},
		{"a patch that is no pair", map[string][]api.Hash{"a": {h, k}}, []api.Patch{one}, api.ErrCorrupt},
		{"no patch is a pair", map[string][]api.Hash{"a": {h}}, nil, api.ErrCorrupt},
		{"a patch that no channel has", map[string][]api.Hash{"a": {h}}, []api.Patch{one, two}, api.ErrCorrupt},
		{"no channel", nil, []api.Patch{one}, api.ErrCorrupt},
		{"a patch that no channel takes", map[string][]api.Hash{"a": {h, b}}, []api.Patch{one, bad}, api.ErrCorrupt},
		{"noughts", map[string][]api.Hash{"a": {h, {}}}, []api.Patch{one}, api.ErrCorrupt},
		{"no name", map[string][]api.Hash{"A": {h}}, []api.Patch{one}, api.ErrCorrupt},
		{"an empty name", map[string][]api.Hash{"": {h}}, []api.Patch{one}, api.ErrCorrupt},
		{"a long name", map[string][]api.Hash{"abcdefghijklmnopq": {h}}, []api.Patch{one}, api.ErrCorrupt},
	} {
		l := pairsOf(t, c.channels, c.patches...)
		p, e := pool.Load(l)
		want(t, c.what, e, c.want)
		if (p != nil) != (e == api.OK) || p != nil && !slices.Equal(p.Pairs(), l) {
			t.Errorf("%s: %v", c.what, p)
		}
	}
}

// P14.6: keys, values and places that are another pool's, or none's.
func TestLoadPairs(t *testing.T) {
	o := newOrdinary(t)
	good := o.Pairs()
	each := func(what string, change func(l []api.Pair, i int) []api.Pair) {
		t.Helper()
		for i := range good {
			corrupt(t, fmt.Sprint(what, " ", i), change(slices.Clone(good), i))
		}
	}
	key := func(what string, change func(key string) string) {
		t.Helper()
		each(what, func(l []api.Pair, i int) []api.Pair {
			l[i].Key = change(l[i].Key)
			return l
		})
	}
	each("one goes", func(l []api.Pair, i int) []api.Pair { return slices.Delete(l, i, i+1) })
	each("one comes twice", func(l []api.Pair, i int) []api.Pair { return slices.Insert(l, i, l[i]) })
	each("one comes again at the end", func(l []api.Pair, i int) []api.Pair { return append(l, l[i]) })
	each("one comes again with nothing", func(l []api.Pair, i int) []api.Pair { return slices.Insert(l, i, api.Pair{Key: l[i].Key}) })
	each("two change places", func(l []api.Pair, i int) []api.Pair {
		j := (i + 1) % len(l)
		l[i], l[j] = l[j], l[i]
		return l
	})
	each("a byte more", func(l []api.Pair, i int) []api.Pair {
		l[i].Value += "\x00"
		return l
	})
	each("a byte less", func(l []api.Pair, i int) []api.Pair {
		l[i].Value = l[i].Value[1:]
		return l
	})
	each("the last byte less", func(l []api.Pair, i int) []api.Pair {
		l[i].Value = l[i].Value[:len(l[i].Value)-1]
		return l
	})
	each("a byte turned", func(l []api.Pair, i int) []api.Pair {
		b := []byte(l[i].Value)
		b[len(b)/2] ^= 1
		l[i].Value = string(b)
		return l
	})
	key("no key", func(string) string { return "" })
	key("a key of another kind", func(key string) string { return "x" + key[1:] })
	key("the other kind", func(key string) string { return map[byte]string{'c': "p", 'p': "c"}[key[0]] + key[1:] })
	key("capitals", func(key string) string { return "C" + key[1:] })
	key("a prefix", func(key string) string { return key[:2] })
	key("without a slash", func(key string) string { return key[:1] + key[2:] })
	key("behind something", func(key string) string { return " " + key })
	key("ahead of something", func(key string) string { return key + "/" })
	for _, extra := range []api.Pair{{}, {Key: "c"}, {Key: "p/"}, {Key: "z", Value: "z"}, {Key: "c/x", Value: "x"}, {Key: "p/00", Value: ""}} {
		l := append(slices.Clone(good), extra)
		corrupt(t, "one more", l)
		slices.SortFunc(l, func(a, b api.Pair) int { return slices.Compare([]byte(a.Key), []byte(b.Key)) })
		corrupt(t, "one more, rising", l)
	}
}

// P14.6: hashes in capitals write the same bytes, but are not what Pairs tells.
func TestLoadCapitals(t *testing.T) {
	q := adding("one", "p")
	h := nameOf(t, q)
	l := pairsOf(t, map[string][]api.Hash{"a": {h}}, q)
	l[1].Key = "p/" + fmt.Sprintf("%X", h[:])
	corrupt(t, "capitals", l)
}

// P14.6: bytes that are no patch, though their hash is right.
func TestLoadNoPatch(t *testing.T) {
	for _, b := range []string{"", "P", "no patch", pairOf(t, adding("one", "p")).Value + "\x00"} {
		h := api.Hash(sumOf(b))
		corrupt(t, "no patch", []api.Pair{{Key: "c/a", Value: string(h[:])}, {Key: "p/" + fmt.Sprintf("%x", h[:]), Value: b}})
		corrupt(t, "no patch, and no channel", []api.Pair{{Key: "p/" + fmt.Sprintf("%x", h[:]), Value: b}})
	}
}

// P14.6: as many channels and patches as there may be, and one more.
func TestLoadLong(t *testing.T) {
	channels := map[string][]api.Hash{}
	for i := range api.MaxChannels {
		channels["c"+fmt.Sprint(i)] = nil
	}
	p, e := pool.Load(pairsOf(t, channels))
	want(t, "MaxChannels", e, api.OK)
	if len(p.Names()) != api.MaxChannels {
		t.Error(p.Names())
	}
	channels["more"] = nil
	corrupt(t, "MaxChannels + 1", pairsOf(t, channels))

	var log []api.Hash
	var l []api.Patch
	for i := range api.MaxPatches + 1 {
		l = append(l, adding(fmt.Sprint(i), "p/"+fmt.Sprint(i)))
		log = append(log, nameOf(t, l[i]))
	}
	p, e = pool.Load(pairsOf(t, map[string][]api.Hash{"a": log[1:], "b": log[:1]}, l...))
	want(t, "MaxPatches", e, api.OK)
	if len(p.Channel("a").Log()) != api.MaxPatches {
		t.Error(len(p.Channel("a").Log()))
	}
	corrupt(t, "MaxPatches + 1", pairsOf(t, map[string][]api.Hash{"a": log}, l...))
}

// Rule 1: a pool that is nil, or that no call made.
func TestNoPool(t *testing.T) {
	for _, p := range []*pool.Pool{nil, {}, new(pool.Pool)} {
		for range 2 {
			for _, name := range []string{"a", "", "A"} {
				want(t, "Make", p.Make(name), api.ErrNil)
				want(t, "Fork", p.Fork(name, name), api.ErrNil)
				want(t, "Drop", p.Drop(name), api.ErrNil)
				want(t, "Unapply", p.Unapply(name, api.Hash{}), api.ErrNil)
				h, e := p.Apply(name, api.Patch{})
				want(t, "Apply", e, api.ErrNil)
				l, e := p.Pull(name, name, api.Hash{})
				want(t, "Pull", e, api.ErrNil)
				if h != (api.Hash{}) || len(l) > 0 || p.Channel(name) != nil {
					t.Error(h, l)
				}
			}
			if len(p.Names()) > 0 || p.Bytes() != 0 || len(p.Pairs()) > 0 {
				t.Error("it has something")
			}
		}
	}
}

// spoil writes over a list, and over its spare room.
func spoil[T any](l []T, with T) {
	for i := range l[:cap(l)] {
		l[:cap(l)][i] = with
	}
}

// Rule 4: what is handed out is new memory; what is handed in is neither changed nor kept, its spare room neither.
func TestMemory(t *testing.T) {
	o := newOrdinary(t)
	l, e := o.Pull("main", "side", o.three)
	want(t, "Pull", e, api.OK)
	o.m.pull("main", "side", o.three)
	spoil(l, api.Hash{})
	spoil(o.Names(), "bad")
	spoil(o.Pairs(), api.Pair{})
	hold(t, "handed out", o.Pool, o.m)

	q := adding("new", "p", o.one)
	o.m.apply("main", adding("new", "p", o.one))
	must(t, o.Pool, "main", q)
	if !patch.Same(q, adding("new", "p", o.one)) {
		t.Error("a patch that was handed in has changed")
	}
	q.Deps[0], q.Ops[0].Lines[0], q.Ops[0].Path = api.Hash{1}, "bad", "bad"
	hold(t, "a patch that was handed in", o.Pool, o.m)

	pairs := append(make([]api.Pair, 0, 40), o.Pairs()...)
	was := slices.Clone(pairs)
	p, e := pool.Load(pairs)
	want(t, "Load", e, api.OK)
	if !slices.Equal(pairs, was) || pairs[:40][39] != (api.Pair{}) {
		t.Error("pairs that were handed in have changed")
	}
	spoil(pairs, api.Pair{})
	hold(t, "pairs that were handed in", p, o.m)
	// What lies behind the list's length is not read.
	room := slices.Concat(was, []api.Pair{{Key: "bad"}})
	_, e = pool.Load(room[:len(was)])
	want(t, "spare room", e, api.OK)
}
