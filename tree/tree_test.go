package tree_test

import (
	"fmt"
	"iter"
	"maps"
	"math/rand"
	"slices"
	"strings"
	"testing"

	"ingot/api"
	"ingot/tree"
)

// told tells what an iterator tells.
func told(seq iter.Seq2[string, string]) []api.Pair {
	var out []api.Pair
	for k, v := range seq {
		out = append(out, api.Pair{Key: k, Value: v})
	}
	return out
}

func all(m *tree.Map) []api.Pair { return told(m.Scan("", "")) }

// model is what a map must have.
type model map[string]string

// scan tells what a Scan must tell, key by key as the chapter words it.
func (w model) scan(from, until string) []api.Pair {
	var out []api.Pair
	for _, k := range slices.Sorted(maps.Keys(w)) {
		if k >= from && (until == "" || k < until) {
			out = append(out, api.Pair{Key: k, Value: w[k]})
		}
	}
	return out
}

// hold holds all of a map to what it must have.
func (w model) hold(t *testing.T, what string, m *tree.Map) {
	t.Helper()
	if got, want := all(m), w.scan("", ""); !slices.Equal(got, want) {
		t.Fatalf("%s: %q, not %q", what, got, want)
	}
	if m.Len() != len(w) {
		t.Fatalf("%s: Len %d, not %d", what, m.Len(), len(w))
	}
	for k, v := range w {
		if got, is := m.Get(k); got != v || !is {
			t.Fatalf("%s: %q has %q %v, not %q", what, k, got, is, v)
		}
	}
	holdDepth(t, what, m)
}

// holdDepth holds P7.4.
func holdDepth(t *testing.T, what string, m *tree.Map) {
	t.Helper()
	n, depth := m.Len(), m.Depth()
	if n == 0 {
		if depth != 0 {
			t.Fatalf("%s: no key, and the depth %d", what, depth)
		}
		return
	}
	least, most := 2, 8
	for range depth - 1 {
		least, most = 4*least, 8*most
	}
	if depth < 1 || n < least-1 || n > most-1 {
		t.Fatalf("%s: %d keys, and the depth %d", what, n, depth)
	}
}

func put(t *testing.T, m *tree.Map, w model, key, value string) {
	t.Helper()
	_, had := w[key]
	w[key] = value
	if m.Put(key, value) != had {
		t.Fatalf("Put %q: not %v", key, had)
	}
}

func drop(t *testing.T, m *tree.Map, w model, key string) {
	t.Helper()
	_, had := w[key]
	delete(w, key)
	if m.Delete(key) != had {
		t.Fatalf("Delete %q: not %v", key, had)
	}
}

// numbered makes a map of the keys 0 to n - 1, in four digits.
func numbered(t *testing.T, n int) (*tree.Map, model) {
	t.Helper()
	m, w := tree.New(), model{}
	for i := range n {
		put(t, m, w, digits(i), fmt.Sprint("v", i))
	}
	return m, w
}

func digits(i int) string { return fmt.Sprintf("%04d", i) }

// The chapter's example.
func TestExample(t *testing.T) {
	m := tree.New()
	if m.Put("b", "1") || m.Put("a", "2") {
		t.Error("there was nothing")
	}
	if got := told(m.Scan("", "b")); !slices.Equal(got, []api.Pair{{Key: "a", Value: "2"}}) {
		t.Error(got)
	}
	m = tree.New()
	for i := range 8 {
		if want := min(i, 1); m.Depth() != want {
			t.Error(i, "keys:", m.Depth())
		}
		m.Put(digits(i), "")
	}
	if m.Depth() != 2 {
		t.Error("8 keys:", m.Depth())
	}
}

// P7.1: a key's value, and whether there is one.
func TestPutGetDelete(t *testing.T) {
	m := tree.New()
	if v, is := m.Get("a"); v != "" || is {
		t.Error("Get of nothing", v, is)
	}
	if m.Delete("a") || m.Len() != 0 {
		t.Error("Delete of nothing")
	}
	if m.Put("a", "") {
		t.Error("the first Put")
	}
	if v, is := m.Get("a"); v != "" || !is {
		t.Error("an empty value is one", v, is)
	}
	if !m.Put("a", "x") || m.Len() != 1 {
		t.Error("the second Put", m.Len())
	}
	if v, is := m.Get("a"); v != "x" || !is {
		t.Error("Get", v, is)
	}
	if m.Put("", "empty") || m.Len() != 2 {
		t.Error("the empty key is a key")
	}
	if v, is := m.Get(""); v != "empty" || !is {
		t.Error("Get of the empty key", v, is)
	}
	if !m.Delete("a") || m.Delete("a") || m.Len() != 1 {
		t.Error("Delete", m.Len())
	}
	if v, is := m.Get("a"); v != "" || is {
		t.Error("Get behind Delete", v, is)
	}
	if m.Put("a", "y") || !m.Delete("") || !m.Delete("a") || m.Len() != 0 || m.Depth() != 0 {
		t.Error("all is gone", m.Len(), m.Depth())
	}
}

// P7.1, rule 7: keys are any bytes, and stand by these.
func TestBytes(t *testing.T) {
	keys := []string{"", "\x00", "\x00\x00", "\x00\xff", "A", "B", "a", "a\x00", "aa", "ab", "b", "z", "\x7f", "\x80", "é", "\xc3\xaa", "\xff", "\xff\xff", strings.Repeat("\xff", 5000)}
	for range 20 {
		m, w := tree.New(), model{}
		for _, i := range rand.Perm(len(keys)) {
			put(t, m, w, keys[i], strings.ToUpper(keys[i])+"!")
		}
		w.hold(t, "any bytes", m)
		for i, pair := range all(m) {
			if pair.Key != keys[i] {
				t.Fatalf("%q stands at %d", pair.Key, i)
			}
		}
	}
}

// orders are ways to go through the numbers below n.
func orders(n int) map[string][]int {
	up := make([]int, n)
	for i := range up {
		up[i] = i
	}
	down := slices.Clone(up)
	slices.Reverse(down)
	out := map[string][]int{"rising": up, "falling": down}
	var inside, strides []int
	for i := range n {
		inside = append(inside, n/2+(i+1)/2*(1-2*(i%2)))
	}
	for first := range 5 {
		for i := first; i < n; i += 5 {
			strides = append(strides, i)
		}
	}
	out["from the middle"], out["by fives"] = inside, strides
	for k := range 3 {
		out[fmt.Sprint("by chance ", k)] = rand.New(rand.NewSource(int64(k))).Perm(n)
	}
	return out
}

// P7.1, P7.3, P7.4: keys come in any order, and go in any order.
func TestOrders(t *testing.T) {
	const n = 300
	for coming, in := range orders(n) {
		for going, out := range orders(n) {
			m, w := tree.New(), model{}
			for _, i := range in {
				put(t, m, w, digits(i), "x")
				holdDepth(t, coming, m)
			}
			w.hold(t, coming, m)
			for k, i := range out {
				drop(t, m, w, digits(i))
				holdDepth(t, going, m)
				if k%37 == 0 {
					w.hold(t, coming+", "+going, m)
				}
			}
			if m.Len() != 0 || m.Depth() != 0 || len(all(m)) != 0 {
				t.Fatalf("%s, %s: %d keys are left", coming, going, m.Len())
			}
		}
	}
}

// P7.1, P7.2, P7.4: a long course of calls, with few keys and with many.
func TestCourses(t *testing.T) {
	for seed, keys := range []int{3, 9, 40, 200, 1000} {
		r := rand.New(rand.NewSource(int64(seed)))
		m, w := tree.New(), model{}
		for step := range 4000 {
			key := digits(r.Intn(keys))
			// It grows and shrinks in turn.
			if r.Intn(10) < 3+4*(step/500%2) {
				put(t, m, w, key, fmt.Sprint(step))
			} else {
				drop(t, m, w, key)
			}
			holdDepth(t, "a course", m)
			key = digits(r.Intn(keys))
			v, is := m.Get(key)
			want, wanted := w[key]
			if v != want || is != wanted || m.Len() != len(w) {
				t.Fatalf("step %d: %q has %q %v, not %q %v", step, key, v, is, want, wanted)
			}
			if step%97 == 0 {
				w.hold(t, "a course", m)
				from, until := digits(r.Intn(keys)), digits(r.Intn(keys))
				if got := told(m.Scan(from, until)); !slices.Equal(got, w.scan(from, until)) {
					t.Fatalf("Scan %q %q: %q", from, until, got)
				}
			}
		}
	}
}

// P7.2: where a Scan begins and ends.
func TestScanRanges(t *testing.T) {
	for _, n := range []int{0, 1, 2, 7, 8, 60} {
		m, w := tree.New(), model{}
		edges := []string{"", "\x00", "\xff"}
		for i := range n {
			key := fmt.Sprintf("%02d", i)
			put(t, m, w, key, "v"+key)
			edges = append(edges, key, key+"\x00", key[:1])
		}
		for _, from := range edges {
			for _, until := range edges {
				if got, want := told(m.Scan(from, until)), w.scan(from, until); !slices.Equal(got, want) {
					t.Fatalf("Scan %q %q: %q, not %q", from, until, got, want)
				}
			}
		}
	}
	m := tree.New()
	m.Put("", "v")
	m.Put("\x00", "w")
	if got := told(m.Scan("", "\x00")); !slices.Equal(got, []api.Pair{{Key: "", Value: "v"}}) {
		t.Error("the empty key", got)
	}
	if got := told(m.Scan("\x00", "")); !slices.Equal(got, []api.Pair{{Key: "\x00", Value: "w"}}) {
		t.Error("behind the empty key", got)
	}
}

// P7.2, rule 8: a Scan may be left anywhere, and ranged over again.
func TestScanLeft(t *testing.T) {
	m, w := numbered(t, 100)
	seq := m.Scan("0010", "0090")
	want := w.scan("0010", "0090")
	for most := range len(want) + 1 {
		var got []api.Pair
		for k, v := range seq {
			if len(got) == most {
				break
			}
			got = append(got, api.Pair{Key: k, Value: v})
		}
		if !slices.Equal(got, want[:most]) {
			t.Fatalf("left behind %d: %q", most, got)
		}
	}
	// Two ranges over one iterator, one within the other.
	pairs := 0
	for range seq {
		for range seq {
			pairs++
		}
	}
	if pairs != len(want)*len(want) {
		t.Error(pairs)
	}
}

// P7.2: what a Scan tells is what was there when it was called.
func TestScanTellsWhatWasThere(t *testing.T) {
	for _, n := range []int{1, 7, 8, 60, 300} {
		m, w := numbered(t, n)
		seq, want := m.Scan("", ""), w.scan("", "")
		changeAll := func(i int) {
			drop(t, m, w, digits((i*7)%n))
			put(t, m, w, digits((i*11)%n), fmt.Sprint("again ", i))
			put(t, m, w, digits(i)+"x", "new")
		}
		// Ahead of the range, and within it.
		changeAll(n - 1)
		i := 0
		for k, v := range seq {
			if i >= n || want[i] != (api.Pair{Key: k, Value: v}) {
				t.Fatalf("%d keys: %q %q stands at %d", n, k, v, i)
			}
			changeAll(i)
			i++
		}
		if i != n {
			t.Errorf("%d keys: told %d", n, i)
		}
		w.hold(t, "changed within a range", m)
		if got := told(seq); !slices.Equal(got, want) {
			t.Errorf("%d keys: ranged over again: %q", n, got)
		}
	}
	empty := tree.New()
	seq := empty.Scan("", "")
	empty.Put("a", "1")
	if got := told(seq); len(got) != 0 {
		t.Error("of nothing:", got)
	}
}

// P7.2: clones go their own ways, and so do clones of these.
func TestClone(t *testing.T) {
	type pair struct {
		m *tree.Map
		w model
	}
	r := rand.New(rand.NewSource(5))
	first, w := numbered(t, 40)
	kept := []pair{{first, w}}
	for step := range 3000 {
		p := kept[r.Intn(len(kept))]
		switch key := digits(r.Intn(70)); r.Intn(9) {
		case 0:
			if len(kept) < 12 {
				kept = append(kept, pair{p.m.Clone(), maps.Clone(p.w)})
			}
		case 1, 2, 3, 4:
			drop(t, p.m, p.w, key)
		default:
			put(t, p.m, p.w, key, fmt.Sprint(step))
		}
		if step%50 == 0 {
			for i, p := range kept {
				p.w.hold(t, fmt.Sprint("clone ", i), p.m)
			}
		}
	}
	for i, p := range kept {
		p.w.hold(t, fmt.Sprint("clone ", i), p.m)
	}
	if len(kept) != 12 {
		t.Error("clones:", len(kept))
	}
}

func TestCloneOfNothing(t *testing.T) {
	m := tree.New()
	c := m.Clone()
	if c == nil || c == m || c.Len() != 0 || c.Put("a", "1") || m.Len() != 0 || c.Len() != 1 {
		t.Error("a clone of a map without keys")
	}
}

// P7.3: a map that is as deep as it may be has enough keys: those are taken away that leave the depth as it is, till there is none.
func TestAsFewKeysAsMayBe(t *testing.T) {
	for seed, n := range []int{8, 20, 33, 64, 100, 130, 200} {
		r := rand.New(rand.NewSource(int64(seed)))
		m, _ := numbered(t, n)
		depth := m.Depth()
		for going := true; going; {
			going = false
			keys := all(m)
			for _, i := range r.Perm(len(keys)) {
				c := m.Clone()
				c.Delete(keys[i].Key)
				holdDepth(t, "few keys", c)
				if c.Depth() == depth {
					m, going = c, true
				}
			}
		}
	}
}

// P7.3: a map that is as shallow as it may be has not too many keys: those are put that leave the depth as it is, till there is none.
func TestAsManyKeysAsMayBe(t *testing.T) {
	for _, depth := range []int{1, 2, 3} {
		m := tree.New()
		for i := 0; m.Depth() < depth; i++ {
			m.Put(fmt.Sprintf("%04d", 2*i), "")
		}
		for going := true; going; {
			going = false
			keys := append(all(m), api.Pair{Key: "9999"})
			for i, pair := range keys {
				between := strings.TrimRight(pair.Key, "~") + fmt.Sprint("-", len(keys), "-", i)
				c := m.Clone()
				if c.Put(between, "") {
					t.Fatal("it is there already:", between)
				}
				holdDepth(t, "many keys", c)
				if c.Depth() == depth {
					m, going = c, true
				}
			}
		}
	}
}

// P7.3: what changes no key changes no node.
func TestDepthStays(t *testing.T) {
	for n := range 200 {
		m, w := numbered(t, n)
		depth := m.Depth()
		for i := range n {
			put(t, m, w, digits(i), "other")
			drop(t, m, w, digits(i)+"x")
			if m.Depth() != depth || m.Len() != n {
				t.Fatal(n, "keys: the depth was", depth, "and is", m.Depth())
			}
		}
		w.hold(t, "other values", m)
	}
}

// P7.3, rule 1: a map that no call made has nothing, and takes nothing.
func TestNoMap(t *testing.T) {
	for what, m := range map[string]*tree.Map{"nil": nil, "plain": {}} {
		for range 2 {
			if m.Put("a", "1") || m.Put("a", "2") || m.Delete("a") {
				t.Error(what, "it takes something")
			}
			if v, is := m.Get("a"); v != "" || is {
				t.Error(what, v, is)
			}
			if m.Len() != 0 || m.Depth() != 0 || m.Clone() != nil {
				t.Error(what, m.Len(), m.Depth())
			}
			if seq := m.Scan("", ""); seq == nil || len(told(seq)) != 0 {
				t.Error(what, "Scan")
			}
		}
	}
}

// P7.1, P7.4: many keys, in little time.
func TestMany(t *testing.T) {
	const n = 100000
	m := tree.New()
	for i := range n {
		m.Put(fmt.Sprint(i*7919%n), "")
	}
	holdDepth(t, "many", m)
	for i := range n {
		if i%3 != 0 && !m.Delete(fmt.Sprint(i)) {
			t.Fatal(i)
		}
	}
	holdDepth(t, "a third of many", m)
	if m.Len() != (n+2)/3 || len(all(m)) != m.Len() {
		t.Error(m.Len())
	}
}
