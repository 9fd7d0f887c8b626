package deps_test

import (
	"bytes"
	"math/rand"
	"slices"
	"testing"

	"ingot/api"
	"ingot/deps"
)

func h(b byte) api.Hash { return api.Hash{b} }

func item(name byte, needs ...byte) api.Item {
	return api.Item{Name: h(name), Deps: hashes(needs...)}
}

func hashes(l ...byte) []api.Hash {
	var out []api.Hash
	for _, b := range l {
		out = append(out, h(b))
	}
	return out
}

func items(l ...api.Item) []api.Item { return l }

func holdList(t *testing.T, what string, got, want []api.Hash) {
	t.Helper()
	if !slices.Equal(got, want) {
		t.Errorf("%s: %x, not %x", what, got, want)
	}
}

func holdOrder(t *testing.T, what string, l []api.Item, want []api.Hash, e api.Errno) {
	t.Helper()
	got, is := deps.Order(l)
	if is != e || len(got) > 0 && e != api.OK {
		t.Errorf("%s: %x %d, not %d", what, got, int(is), int(e))
	}
	holdList(t, what, got, want)
}

// The chapter's example, and hashes that stand otherwise than the items.
func TestExample(t *testing.T) {
	l := items(item(1), item(2, 1), item(3, 1, 2))
	holdOrder(t, "Order", l, hashes(1, 2, 3), api.OK)
	holdList(t, "Needs", deps.Needs(l, h(3)), hashes(1, 2))
	holdList(t, "Above", deps.Above(l, h(1)), hashes(2, 3))
	l = items(item(3), item(1, 3), item(2, 3, 1))
	holdOrder(t, "Order", l, hashes(3, 1, 2), api.OK)
	holdList(t, "Needs", deps.Needs(l, h(2)), hashes(1, 3))
	holdList(t, "Above", deps.Above(l, h(3)), hashes(1, 2))
}

// A list without an item.
func TestNothing(t *testing.T) {
	for _, l := range [][]api.Item{nil, {}} {
		holdOrder(t, "Order", l, nil, api.OK)
		if !deps.Closed(l) || len(deps.Missing(l)) > 0 || len(deps.Needs(l, h(1))) > 0 || len(deps.Above(l, h(1))) > 0 {
			t.Error("it has something")
		}
	}
}

// P12.1: what is closed, and what is missing.
func TestClosed(t *testing.T) {
	for _, c := range []struct {
		what    string
		l       []api.Item
		closed  bool
		missing []api.Hash
	}{
		{"one", items(item(1)), true, nil},
		{"noughts", items(item(0), item(1, 0)), true, nil},
		{"noughts are missing", items(item(1, 0)), false, hashes(0)},
		{"in any order", items(item(2, 1, 3), item(1), item(3)), true, nil},
		{"one of deps twice", items(item(2, 1, 1), item(1)), true, nil},
		{"a loop", items(item(1, 2), item(2, 1)), true, nil},
		{"itself", items(item(1, 1)), true, nil},
		{"two of one name", items(item(1), item(1)), false, nil},
		{"two of one name, far", items(item(1), item(2, 1), item(1, 2)), false, nil},
		{"the last one of deps", items(item(2, 1, 3), item(1)), false, hashes(3)},
		{"the first one of deps", items(item(2, 3, 1), item(1)), false, hashes(3)},
		{"rising, each once", items(item(5, 9, 1, 200), item(6, 200, 127, 9, 9, 128), item(7, 5)), false, hashes(1, 9, 127, 128, 200)},
		{"and two of one name", items(item(5, 1), item(5, 2), item(5, 5)), false, hashes(1, 2)},
	} {
		if got := deps.Closed(c.l); got != c.closed {
			t.Errorf("%s: %v", c.what, got)
		}
		holdList(t, c.what, deps.Missing(c.l), c.missing)
	}
}

// P12.2: each error, of several the one that is named first.
func TestOrderErrors(t *testing.T) {
	for _, c := range []struct {
		what string
		l    []api.Item
		want api.Errno
	}{
		{"two of one name", items(item(1), item(2), item(1)), api.ErrThere},
		{"two of one name, which both need nothing that is there", items(item(1, 9), item(1, 9)), api.ErrThere},
		{"two of one name, and a loop", items(item(1, 1), item(1)), api.ErrThere},
		{"missing", items(item(1, 2)), api.ErrMissing},
		{"missing, and a loop", items(item(1, 1), item(2, 9)), api.ErrMissing},
		{"a loop that misses one", items(item(1, 2), item(2, 1, 3)), api.ErrMissing},
		{"itself", items(item(1, 1)), api.ErrLoop},
		{"itself, among others", items(item(1), item(2, 1, 2), item(3)), api.ErrLoop},
		{"two", items(item(1, 2), item(2, 1)), api.ErrLoop},
		{"three, with some above and below", items(item(1), item(2, 1, 4), item(3, 2), item(4, 3), item(5, 4), item(6)), api.ErrLoop},
		{"none", items(item(1), item(2, 1), item(3, 2), item(4, 3, 1)), api.OK},
	} {
		got, e := deps.Order(c.l)
		if e != c.want || (len(got) > 0) != (e == api.OK) {
			t.Errorf("%s: %x %d", c.what, got, int(e))
		}
	}
}

// P12.2: again and again the least that may come, which is not the order in which they become ready.
func TestOrderLeast(t *testing.T) {
	holdOrder(t, "1 waits for 9", items(item(9), item(1, 9), item(5), item(6)), hashes(5, 6, 9, 1), api.OK)
	holdOrder(t, "1 comes ahead of 6", items(item(5), item(1, 5), item(6)), hashes(5, 1, 6), api.OK)
	holdOrder(t, "several become ready at once", items(item(1), item(9, 1), item(4, 1), item(200, 1), item(127, 1), item(128)), hashes(1, 4, 9, 127, 128, 200), api.OK)
	holdOrder(t, "one of deps twice", items(item(1, 2, 2, 2), item(2), item(3)), hashes(2, 1, 3), api.OK)
	holdOrder(t, "noughts", items(item(0, 1), item(1), item(2)), hashes(1, 0, 2), api.OK)
	low, high := api.Hash{31: 1}, api.Hash{31: 2}
	holdOrder(t, "the last byte", items(api.Item{Name: high}, api.Item{Name: low}), []api.Hash{low, high}, api.OK)
}

// P12.3: what is needed, by itself and through others, be it there or not; two items of one name need what both need.
func TestNeeds(t *testing.T) {
	for _, c := range []struct {
		what         string
		l            []api.Item
		of           byte
		needs, above []api.Hash
	}{
		{"a chain", items(item(4, 3), item(3, 2), item(2, 1), item(1)), 3, hashes(1, 2), hashes(4)},
		{"the end", items(item(4, 3), item(3, 2), item(2, 1), item(1)), 1, nil, hashes(2, 3, 4)},
		{"the beginning", items(item(4, 3), item(3, 2), item(2, 1), item(1)), 4, hashes(1, 2, 3), nil},
		{"what is not there", items(item(4, 3), item(3, 2), item(2, 1)), 4, hashes(1, 2, 3), nil},
		{"of what is not there", items(item(4, 3), item(3, 2), item(2, 1)), 1, nil, hashes(2, 3, 4)},
		{"of what nobody names", items(item(4, 3), item(3)), 9, nil, nil},
		{"itself", items(item(1, 1), item(2, 1)), 1, hashes(1), hashes(1, 2)},
		{"a loop", items(item(1, 2), item(2, 3), item(3, 1), item(4, 3), item(5)), 2, hashes(1, 2, 3), hashes(1, 2, 3, 4)},
		{"below a loop", items(item(1, 2), item(2, 1, 3), item(3)), 3, nil, hashes(1, 2)},
		{"above a loop", items(item(1, 2), item(2, 1), item(3, 1)), 3, hashes(1, 2), nil},
		{"two of one name", items(item(5, 1), item(5, 2), item(1, 7), item(2, 8), item(6, 5)), 5, hashes(1, 2, 7, 8), hashes(6)},
		{"two of one name, through another one", items(item(6, 5), item(5, 1), item(5, 2)), 6, hashes(1, 2, 5), nil},
		{"two of one name, above", items(item(5, 1), item(5, 1), item(5)), 1, nil, hashes(5)},
		{"two ways", items(item(1), item(2, 1), item(3, 1), item(4, 2, 3)), 4, hashes(1, 2, 3), nil},
		{"two ways, above", items(item(1), item(2, 1), item(3, 1), item(4, 2, 3)), 1, nil, hashes(2, 3, 4)},
		{"rising", items(item(1, 200, 9, 128, 127, 9)), 1, hashes(9, 127, 128, 200), nil},
		{"rising, above", items(item(200, 1), item(9, 1), item(128, 1, 1), item(127, 9)), 1, nil, hashes(9, 127, 128, 200)},
		{"noughts", items(item(0, 1), item(2, 0)), 0, hashes(1), hashes(2)},
	} {
		holdList(t, c.what+": Needs", deps.Needs(c.l, h(c.of)), c.needs)
		holdList(t, c.what+": Above", deps.Above(c.l, h(c.of)), c.above)
	}
}

// many is a chain of n items, the greatest first.
func many(n int) []api.Item {
	var out []api.Item
	for i := range n {
		it := api.Item{Name: api.Hash{byte(i >> 8), byte(i)}}
		if i > 0 {
			it.Deps = []api.Hash{out[0].Name}
		}
		out = slices.Insert(out, 0, it)
	}
	return out
}

// Of MaxPatches items all is told, of one more nothing, whatever else is wrong with them.
func TestLong(t *testing.T) {
	l := many(api.MaxPatches)
	got, e := deps.Order(l)
	if e != api.OK || len(got) != api.MaxPatches || got[0] != l[len(l)-1].Name || !deps.Closed(l) {
		t.Error(len(got), int(e))
	}
	if len(deps.Needs(l, l[0].Name)) != api.MaxPatches-1 || len(deps.Above(l, got[0])) != api.MaxPatches-1 {
		t.Error("MaxPatches items")
	}
	if n := len(deps.Missing(l[:api.MaxPatches-1])); n != 1 {
		t.Error(n)
	}
	loop, twice, missing := many(api.MaxPatches+1), many(api.MaxPatches+1), many(api.MaxPatches+1)
	loop[api.MaxPatches].Deps = []api.Hash{loop[0].Name}
	twice[3].Name = twice[4].Name
	missing[5].Deps = hashes(255)
	for _, l := range [][]api.Item{many(api.MaxPatches + 1), loop, twice, missing, make([]api.Item, 1<<16)} {
		got, e := deps.Order(l)
		if e != api.ErrLong || len(got) > 0 || deps.Closed(l) || len(deps.Missing(l)) > 0 ||
			len(deps.Needs(l, l[0].Name)) > 0 || len(deps.Above(l, l[len(l)-1].Name)) > 0 {
			t.Errorf("%d items: %d %d", len(l), len(got), int(e))
		}
	}
}

// Lists of deps may be as long as they are, and name anything any number of times.
func TestManyDeps(t *testing.T) {
	var l []api.Item
	for i := range api.MaxPatches {
		it := api.Item{Name: h(byte(i))}
		for j := range 1000 {
			it.Deps = append(it.Deps, h(byte(j%(i+1))))
		}
		it.Deps = slices.DeleteFunc(it.Deps, func(d api.Hash) bool { return d == it.Name })
		l = append(l, it)
	}
	got, e := deps.Order(l)
	if e != api.OK || len(got) != api.MaxPatches || got[255] != h(255) || len(deps.Needs(l, h(255))) != 255 || len(deps.Above(l, h(0))) != 255 {
		t.Error(len(got), int(e))
	}
}

// Rules 4 and 8: what is handed in is not changed, its spare room neither; what is handed out is new memory.
func TestMemory(t *testing.T) {
	room := hashes(2, 1, 9, 8)
	l := items(api.Item{Name: h(3), Deps: room[:2]}, api.Item{Name: h(3), Deps: room[1:2]}, item(2, 1), item(1), item(3, 7))
	short := items(l[0], l[2], l[3])
	calls := func() [][]api.Hash {
		o, _ := deps.Order(short)
		return [][]api.Hash{o, deps.Needs(l, h(3)), deps.Above(l, h(1)), deps.Missing(l), deps.Missing(l[:2])}
	}
	want := [][]api.Hash{hashes(1, 2, 3), hashes(1, 2, 7), hashes(2, 3), hashes(7), hashes(1, 2)}
	for range 2 {
		for i, got := range calls() {
			holdList(t, "a call", got, want[i])
			clear(got[:cap(got)])
		}
	}
	if !slices.Equal(room, hashes(2, 1, 9, 8)) || len(l) != 5 || l[4].Name != h(3) || l[0].Name != h(3) || len(l[0].Deps) != 2 {
		t.Error(room, l)
	}
}

// needs tells by the chapter's words whether of a list a hash needs another one.
func needs(l []api.Item) map[[2]api.Hash]bool {
	out := map[[2]api.Hash]bool{}
	for more := true; more; {
		more = false
		for _, it := range l {
			for _, d := range it.Deps {
				reached := []api.Hash{d}
				for _, other := range l {
					for _, x := range other.Deps {
						if out[[2]api.Hash{d, x}] {
							reached = append(reached, x)
						}
					}
				}
				for _, x := range reached {
					if p := [2]api.Hash{it.Name, x}; !out[p] {
						out[p] = true
						more = true
					}
				}
			}
		}
	}
	return out
}

func isRising(l []api.Hash) bool {
	for i := 1; i < len(l); i++ {
		if bytes.Compare(l[i-1][:], l[i][:]) >= 0 {
			return false
		}
	}
	return true
}

func byChance(r *rand.Rand) []api.Item {
	var out []api.Item
	n := r.Intn(8)
	most := 1 + r.Intn(10)
	for i := range n {
		it := api.Item{Name: h(byte(i))}
		if r.Intn(20) == 0 {
			it.Name = h(byte(r.Intn(9)))
		}
		for range r.Intn(4) {
			d := r.Intn(max(i, 1))
			if r.Intn(8) == 0 {
				d = r.Intn(most)
			}
			if i > 0 {
				it.Deps = append(it.Deps, h(byte(d)))
			}
		}
		out = append(out, it)
	}
	mix(r, out)
	return out
}

// mix changes the order of items and of their deps.
func mix(r *rand.Rand, l []api.Item) {
	r.Shuffle(len(l), func(i, j int) { l[i], l[j] = l[j], l[i] })
	for _, it := range l {
		r.Shuffle(len(it.Deps), func(i, j int) { it.Deps[i], it.Deps[j] = it.Deps[j], it.Deps[i] })
	}
}

// rename gives all hashes other bytes, so that they rise otherwise.
func rename(r *rand.Rand, l []api.Item) {
	to := r.Perm(256)
	for i := range l {
		l[i].Name[0] = byte(to[l[i].Name[0]])
		for j := range l[i].Deps {
			l[i].Deps[j][0] = byte(to[l[i].Deps[j][0]])
		}
	}
}

// orderOf tells the order by the chapter's words; nothing, if it comes to no end.
func orderOf(l []api.Item) []api.Hash {
	var out []api.Hash
	for len(out) < len(l) {
		var may []api.Hash
		for _, it := range l {
			if !slices.Contains(out, it.Name) && !slices.ContainsFunc(it.Deps, func(d api.Hash) bool { return !slices.Contains(out, d) }) {
				may = append(may, it.Name)
			}
		}
		if len(may) == 0 {
			return nil
		}
		out = append(out, slices.MinFunc(may, func(a, b api.Hash) int { return bytes.Compare(a[:], b[:]) }))
	}
	return out
}

// holdAll holds all answers of a list against the chapter's words, and tells Order's error.
func holdAll(t *testing.T, l []api.Item) api.Errno {
	t.Helper()
	need := needs(l)
	isName := func(x api.Hash) bool { return slices.ContainsFunc(l, func(it api.Item) bool { return it.Name == x }) }
	twice, loop, missing := false, false, 0
	for i, it := range l {
		twice = twice || slices.ContainsFunc(l[:i], func(o api.Item) bool { return o.Name == it.Name })
		loop = loop || need[[2]api.Hash{it.Name, it.Name}]
	}
	all := hashes(254) // mostly one that nobody names
	for _, it := range l {
		all = append(append(all, it.Name), it.Deps...)
	}
	slices.SortFunc(all, func(a, b api.Hash) int { return bytes.Compare(a[:], b[:]) })
	all = slices.Compact(all)
	for _, x := range all {
		gotNeeds, gotAbove := deps.Needs(l, x), deps.Above(l, x)
		if !isRising(gotNeeds) || !isRising(gotAbove) {
			t.Fatalf("they don't rise: %x %x", gotNeeds, gotAbove)
		}
		isMissing := false
		for _, y := range all {
			if slices.Contains(gotNeeds, y) != need[[2]api.Hash{x, y}] || slices.Contains(gotAbove, y) != need[[2]api.Hash{y, x}] {
				t.Fatalf("%x %x of %x: %x %x", x, y, l, gotNeeds, gotAbove)
			}
			isMissing = isMissing || need[[2]api.Hash{y, x}] && !isName(x)
		}
		if isMissing {
			missing++
		}
		if slices.Contains(deps.Missing(l), x) != isMissing {
			t.Fatalf("Missing of %x: %x", l, deps.Missing(l))
		}
	}
	if got := deps.Missing(l); len(got) != missing || !isRising(got) || deps.Closed(l) != (!twice && missing == 0) {
		t.Fatalf("Missing, Closed of %x: %x", l, got)
	}
	got, e := deps.Order(l)
	want := api.OK
	var order []api.Hash
	switch {
	case twice:
		want = api.ErrThere
	case missing > 0:
		want = api.ErrMissing
	case loop:
		want = api.ErrLoop
	default:
		order = orderOf(l)
	}
	if e != want || !slices.Equal(got, order) {
		t.Fatalf("Order of %x: %x %d, not %x %d", l, got, int(e), order, int(want))
	}
	for i, x := range got { // P12.4
		for _, y := range got[i:] {
			if need[[2]api.Hash{x, y}] {
				t.Fatalf("%x stands ahead of %x", x, y)
			}
		}
	}
	return e
}

// P12.1 to P12.5: all answers are what the chapter's words say, in whatever order the items and their deps stand.
func TestAsModel(t *testing.T) {
	r := rand.New(rand.NewSource(1))
	met := map[api.Errno]int{}
	for range 1000 {
		l := byChance(r)
		rename(r, l)
		first := holdAll(t, l)
		met[first]++
		mix(r, l)
		if e := holdAll(t, l); e != first {
			t.Fatal("it hangs on the order")
		}
	}
	for _, e := range []api.Errno{api.OK, api.ErrThere, api.ErrMissing, api.ErrLoop} {
		if met[e] < 50 {
			t.Error("few were met:", int(e), met[e])
		}
	}
}

// P12.5: of a great list too.
func TestAnyOrderGreat(t *testing.T) {
	r := rand.New(rand.NewSource(2))
	for range 20 {
		var l []api.Item
		for i := range api.MaxPatches {
			it := api.Item{Name: h(byte(i))}
			for range min(i, 3) {
				it.Deps = append(it.Deps, h(byte(r.Intn(i))))
			}
			l = append(l, it)
		}
		rename(r, l)
		want, e := deps.Order(l)
		if e != api.OK || !slices.Equal(want, orderOf(l)) {
			t.Fatal(int(e))
		}
		below, above := deps.Needs(l, want[200]), deps.Above(l, want[20])
		mix(r, l)
		holdOrder(t, "mixed", l, want, api.OK)
		holdList(t, "Needs", deps.Needs(l, want[200]), below)
		holdList(t, "Above", deps.Above(l, want[20]), above)
	}
}
