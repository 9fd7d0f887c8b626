package audit_test

import (
	"encoding/hex"
	"math"
	"slices"
	"strings"
	"testing"

	"ingot/api"
	"ingot/audit"
)

// hold holds all that a log tells against its entries.
func hold(t *testing.T, l *audit.Log, entries []api.Entry) {
	t.Helper()
	if got := l.Entries(); !slices.Equal(got, entries) {
		t.Errorf("entries %v, not %v", got, entries)
	}
	if got := l.Head(); got != headOf(entries) {
		t.Errorf("head %x, not %x", got, headOf(entries))
	}
	if audit.Verify(l.Entries()) != -1 || !audit.Holds(l.Entries(), l.Head()) {
		t.Error("P19.4: what a log has is no chain")
	}
}

// holdList holds all that is told of a list of entries against the chapter's words.
func holdList(t *testing.T, l []api.Entry) {
	t.Helper()
	ahead := slices.Clone(l)
	if got := audit.Verify(l); got != place(l) {
		t.Errorf("Verify: %d, not %d: %v", got, place(l), l)
	}
	chain := place(l) < 0
	if audit.Holds(l, headOf(l)) != chain || audit.Holds(l, api.Hash{1}) || len(l) > 0 && audit.Holds(l, api.Hash{}) {
		t.Error("Holds of", l)
	}
	log, e := audit.Load(l)
	switch {
	case chain && (e != api.OK || log == nil):
		t.Error("Load of a chain:", int(e), l)
	case chain:
		hold(t, log, l)
	case e != api.ErrCorrupt || log != nil:
		t.Error("Load of no chain:", int(e), l)
	}
	if !slices.Equal(l, ahead) {
		t.Error("what was handed in has changed", l)
	}
}

func load(t *testing.T, l []api.Entry) *audit.Log {
	t.Helper()
	log, e := audit.Load(l)
	if e != api.OK || log == nil {
		t.Fatal(int(e))
	}
	return log
}

func must(t *testing.T, l *audit.Log, tick int, who, what string) api.Entry {
	t.Helper()
	e, errno := l.Append(tick, who, what)
	if errno != api.OK {
		t.Fatal(tick, who, what, int(errno))
	}
	return e
}

// refused makes a call that is refused, and holds that nothing has changed.
func refused(t *testing.T, l *audit.Log, tick int, who, what string, is api.Errno) {
	t.Helper()
	ahead := l.Entries()
	if e, errno := l.Append(tick, who, what); errno != is || e != (api.Entry{}) {
		t.Errorf("Append(%d, %q, %d bytes): %v %d, not %d", tick, who, len(what), e, int(errno), int(is))
	}
	hold(t, l, ahead)
}

// some is a log with so many entries, two of each tick.
func some(t *testing.T, n int) *audit.Log {
	t.Helper()
	l := audit.New()
	for i := range n {
		must(t, l, i/2, "ann", strings.Repeat("x", i%7))
	}
	return l
}

// The chapter's example.
func TestExample(t *testing.T) {
	l := audit.New()
	a := must(t, l, 1, "ann", "made org")
	if a != (api.Entry{Seq: 1, Tick: 1, Who: "ann", What: "made org"}) {
		t.Error(a)
	}
	b := must(t, l, 1, "bob", "x")
	if b != (api.Entry{Seq: 2, Tick: 1, Who: "bob", What: "x", Prev: audit.Digest(a)}) {
		t.Error(b)
	}
	hold(t, l, []api.Entry{a, b})
}

// P19.2: digests, written down once and for all.
func TestDigestsOfOld(t *testing.T) {
	var rising api.Hash
	for i := range rising {
		rising[i] = byte(i)
	}
	for _, c := range []struct {
		entry api.Entry
		want  string
	}{
		{api.Entry{Seq: 1, Tick: 1, Who: "ann", What: "made org"}, "b1ee6f18f9ecce7d1eded42df32756787b433bdfc8335510b42523285c9b7fe0"},
		{api.Entry{}, "6db65fd59fd356f6729140571b5bcd6bb3b83492a16e1bf0a3884442fc3c8a0e"},
		{api.Entry{Seq: -1, Tick: math.MinInt}, "6db65fd59fd356f6729140571b5bcd6bb3b83492a16e1bf0a3884442fc3c8a0e"},
		{api.Entry{Seq: 300, Tick: api.MaxTime, Who: strings.Repeat("a", 16), What: strings.Repeat("b", 512), Prev: rising}, "770b01453246de4ce2dce892e411d76bd59f08b22c13df8f6368fe018965e497"},
	} {
		if got := audit.Digest(c.entry); hex.EncodeToString(got[:]) != c.want {
			t.Errorf("%v: %x, not %s", c.entry, got, c.want)
		}
	}
}

// P19.2: digests of entries of all kinds, also of those that stand in no chain.
func TestDigest(t *testing.T) {
	numbers := []int{0, 1, 127, 128, 16383, 16384, api.MaxTime, api.MaxTime + 1, math.MaxInt, -1, -128, math.MinInt}
	texts := []string{"", "a", "é", "\x00", "\xff\xfe", strings.Repeat("w", 127), strings.Repeat("w", 128), strings.Repeat("w", 100000)}
	for i, n := range numbers {
		for j, s := range texts {
			e := api.Entry{Seq: n, Tick: numbers[(i+j)%len(numbers)], Who: s, What: texts[(i+j)%len(texts)], Prev: api.Hash{byte(i), 31: byte(j)}}
			if got := audit.Digest(e); got != digest(e) {
				t.Errorf("%d %d: %x, not %x", i, j, got, digest(e))
			}
		}
	}
}

// P19.2, P19.5: entries that are unlike have other digests, also where the same bytes stand elsewhere in them.
func TestUnlike(t *testing.T) {
	e := api.Entry{Seq: 2, Tick: 3, Who: "ab", What: "cd", Prev: api.Hash{5}}
	met := map[api.Hash]api.Entry{}
	list := []api.Entry{e}
	for _, turn := range []func(*api.Entry){
		func(e *api.Entry) { e.Seq = 3 },
		func(e *api.Entry) { e.Tick = 2 },
		func(e *api.Entry) { e.Seq, e.Tick = 3, 2 },
		func(e *api.Entry) { e.Who, e.What = "a", "bcd" },
		func(e *api.Entry) { e.Who, e.What = "abc", "d" },
		func(e *api.Entry) { e.Who, e.What = "", "abcd" },
		func(e *api.Entry) { e.Who, e.What = "cd", "ab" },
		func(e *api.Entry) { e.Who = "" },
		func(e *api.Entry) { e.What = "" },
		func(e *api.Entry) { e.What = "cd\x05" },
		func(e *api.Entry) { e.Prev = api.Hash{} },
		func(e *api.Entry) { e.Prev = api.Hash{31: 5} },
	} {
		other := e
		turn(&other)
		list = append(list, other)
	}
	for _, e := range list {
		d := audit.Digest(e)
		if other, is := met[d]; is {
			t.Error(e, "and", other, "have one digest")
		}
		met[d] = e
	}
}

// P19.1: ticks at their edges, ones that don't fall, and numbers of the whole range.
func TestTicks(t *testing.T) {
	l := audit.New()
	for _, tick := range []int{-1, math.MinInt, api.MaxTime + 1, math.MaxInt} {
		refused(t, l, tick, "ann", "x", api.ErrArg)
	}
	for _, tick := range []int{0, 0, 5, 5} {
		must(t, l, tick, "ann", "x")
	}
	for _, tick := range []int{4, 0, -1, math.MinInt, api.MaxTime + 1, math.MaxInt} {
		refused(t, l, tick, "ann", "x", api.ErrArg)
	}
	must(t, l, api.MaxTime, "ann", "x")
	must(t, l, api.MaxTime, "ann", "x")
	refused(t, l, api.MaxTime-1, "ann", "x", api.ErrArg)
	refused(t, l, api.MaxTime+1, "ann", "x", api.ErrArg)
	if l := audit.New(); must(t, l, api.MaxTime, "", "").Tick != api.MaxTime {
		t.Error("the first one at MaxTime")
	}
}

// P19.1: texts at their edges, and which error comes first.
func TestTexts(t *testing.T) {
	l := audit.New()
	who, what := strings.Repeat("w", api.MaxName), strings.Repeat("x", api.MaxWhat)
	refused(t, l, 1, who+"w", "x", api.ErrLong)
	refused(t, l, 1, "ann", what+"x", api.ErrLong)
	refused(t, l, 1, strings.Repeat("é", 9), "x", api.ErrLong)
	refused(t, l, -1, who+"w", what+"x", api.ErrArg)
	for _, s := range []string{"", "\x00", "\xff", "A b", "é", "\n"} {
		if e := must(t, l, 1, s, s); e.Who != s || e.What != s {
			t.Error(e)
		}
	}
	if e := must(t, l, 1, who, what); e.Who != who || e.What != what {
		t.Error(e)
	}
	refused(t, l, 0, who+"w", what+"x", api.ErrArg)
	refused(t, l, api.MaxTime+1, who, what+"x", api.ErrArg)
	refused(t, l, 1, who+"w", what, api.ErrLong)
}

// P19.1, P19.2, P19.3: MaxEntries, and one more.
func TestFull(t *testing.T) {
	l := some(t, api.MaxEntries-1)
	must(t, l, api.MaxTime-1, "ann", "the last one")
	for _, log := range []*audit.Log{l, load(t, l.Entries())} {
		for tick, is := range map[int]api.Errno{api.MaxTime - 1: api.ErrLong, api.MaxTime: api.ErrLong, api.MaxTime + 1: api.ErrArg, 0: api.ErrArg} {
			if e, errno := log.Append(tick, "ann", "x"); errno != is || e != (api.Entry{}) {
				t.Error(tick, e, int(errno))
			}
		}
	}
	entries := l.Entries()
	if len(entries) != 4096 || l.Head() != headOf(entries) || audit.Verify(entries) != -1 || !audit.Holds(entries, l.Head()) {
		t.Error(len(entries), audit.Verify(entries))
	}
	entries = append(entries, api.Entry{Seq: 4097, Tick: api.MaxTime, Prev: l.Head()})
	if got := audit.Verify(entries); got != 4096 || audit.Holds(entries, headOf(entries)) {
		t.Error("one more:", got)
	}
	if log, e := audit.Load(entries); log != nil || e != api.ErrCorrupt {
		t.Error("one more:", int(e))
	}
	if got := audit.Verify(append(entries, entries...)); got != 4096 {
		t.Error("many more:", got)
	}
}

// P19.2: the place of each kind of fault, at each place of a chain: bound anew or not.
func TestFaults(t *testing.T) {
	good := some(t, 6).Entries()
	faults := map[string]func(*api.Entry){
		"Seq above":   func(e *api.Entry) { e.Seq++ },
		"Seq below":   func(e *api.Entry) { e.Seq-- },
		"Seq 0":       func(e *api.Entry) { e.Seq = 0 },
		"Seq turned":  func(e *api.Entry) { e.Seq = -e.Seq },
		"Seq far":     func(e *api.Entry) { e.Seq = math.MaxInt },
		"Tick below":  func(e *api.Entry) { e.Tick = -1 },
		"Tick lowest": func(e *api.Entry) { e.Tick = math.MinInt },
		"Tick beyond": func(e *api.Entry) { e.Tick = api.MaxTime + 1 },
		"Tick far":    func(e *api.Entry) { e.Tick = math.MaxInt },
		"Who long":    func(e *api.Entry) { e.Who = strings.Repeat("w", api.MaxName+1) },
		"What long":   func(e *api.Entry) { e.What = strings.Repeat("w", api.MaxWhat+1) },
		"Prev":        func(e *api.Entry) { e.Prev[31] ^= 1 },
		"Prev own":    func(e *api.Entry) { e.Prev = audit.Digest(*e) },
	}
	for what, fault := range faults {
		for at := range good {
			l := slices.Clone(good)
			fault(&l[at])
			if got := audit.Verify(l); got != at {
				t.Errorf("%s at %d: %d", what, at, got)
			}
			for i := at + 1; i < len(l); i++ {
				l[i].Prev = audit.Digest(l[i-1])
			}
			if got := audit.Verify(l); got != at {
				t.Errorf("%s at %d, bound anew: %d", what, at, got)
			}
			holdList(t, l)
		}
	}
}

// P19.2, P19.5: what a chain allows, but its digests don't: told at the entry behind it, and at the end by the head alone.
func TestQuietFaults(t *testing.T) {
	good := some(t, 6).Entries()
	for at := range good {
		for what, turn := range map[string]func(*api.Entry){
			"Who":  func(e *api.Entry) { e.Who = "bob" },
			"What": func(e *api.Entry) { e.What += "." },
		} {
			l := slices.Clone(good)
			turn(&l[at])
			want := at + 1
			if want == len(l) {
				want = -1
			}
			if got := audit.Verify(l); got != want || audit.Holds(l, headOf(good)) {
				t.Errorf("%s at %d: %d, not %d", what, at, got, want)
			}
			if l = bind(l); audit.Verify(l) != -1 || audit.Holds(l, headOf(good)) || !audit.Holds(l, headOf(l)) {
				t.Errorf("%s at %d, bound anew", what, at)
			}
		}
	}
	fallen := bind([]api.Entry{{Tick: 3}, {Tick: 3}, {Tick: 2}, {Tick: 5}})
	if got := audit.Verify(fallen); got != 2 {
		t.Error("a tick that falls:", got)
	}
}

// P19.2, P19.5, P19.6: each beginning of a chain is one, of its own head alone; what is left without a beginning is none.
func TestBeginnings(t *testing.T) {
	all := some(t, 20).Entries()
	for n := range len(all) + 1 {
		holdList(t, all[:n])
		for m := range len(all) + 1 {
			if got := audit.Holds(all[:n], headOf(all[:m])); got != (n == m) {
				t.Error(n, m, got)
			}
		}
		if got := audit.Verify(all[n:]); n > 0 && n < len(all) && got != 0 {
			t.Error("without a beginning of", n, got)
		}
	}
	holdList(t, nil)
	holdList(t, []api.Entry{})
	if !audit.Holds(nil, api.Hash{}) || audit.Holds(nil, api.Hash{31: 1}) || audit.Verify(nil) != -1 {
		t.Error("nothing is a chain, of noughts alone")
	}
	if got := audit.Verify([]api.Entry{{}}); got != 0 {
		t.Error("an empty entry:", got)
	}
}

// P19.3: a log that was loaded goes on as the one whose entries it has.
func TestLoad(t *testing.T) {
	for n := range 8 {
		l := some(t, n)
		m := load(t, l.Entries())
		hold(t, m, l.Entries())
		for _, log := range []*audit.Log{l, m} {
			if n > 3 {
				refused(t, log, 0, "ann", "x", api.ErrArg)
			}
			if e := must(t, log, 50, "bob", "y"); e.Seq != n+1 || e.Prev != headOf(log.Entries()[:n]) {
				t.Error(n, e)
			}
		}
		hold(t, m, l.Entries())
		if l.Head() != m.Head() {
			t.Error("other heads of the same entries")
		}
	}
}

// Rule 4: what is handed out and in is nobody else's memory; logs know nothing of one another.
func TestMemory(t *testing.T) {
	l := some(t, 5)
	want := some(t, 5).Entries()
	out := l.Entries()
	out[0].What, out[4].Seq = "other", 9
	_ = append(out[:2], api.Entry{Who: "other"})
	hold(t, l, want)
	early := l.Entries()
	must(t, l, 9, "bob", "one more")
	if !slices.Equal(early, want) {
		t.Error("entries that were told have changed")
	}

	room := append(slices.Clone(want), api.Entry{Who: "kept"}, api.Entry{Who: "kept"})
	m, n := load(t, room[:5]), load(t, room[:5])
	must(t, m, 9, "bob", "one more")
	must(t, n, 10, "cy", "another one")
	if audit.Verify(room[:5]) != -1 || room[5].Who != "kept" || room[6].Who != "kept" {
		t.Error("the room behind a list was written to")
	}
	hold(t, m, l.Entries())
	room[0].What = "other"
	hold(t, m, l.Entries())
	if n.Entries()[5].Who != "cy" || n.Head() == m.Head() {
		t.Error("logs of one list share their entries")
	}
	early = m.Entries()
	more := m.Entries()
	more = append(more, api.Entry{})
	more[0] = api.Entry{}
	must(t, m, 11, "dan", "x")
	hold(t, m, append(early, m.Entries()[6]))
}

// Rule 1: a log that no call made stays one, whatever it is asked.
func TestNotMade(t *testing.T) {
	for what, l := range map[string]*audit.Log{"nil": nil, "plain": {}} {
		for range 2 {
			for _, tick := range []int{0, -1, math.MaxInt} {
				if e, errno := l.Append(tick, "ann", strings.Repeat("x", 600)); e != (api.Entry{}) || errno != api.ErrNil {
					t.Error(what, e, int(errno))
				}
			}
			if _, errno := l.Append(0, "ann", "x"); errno != api.ErrNil {
				t.Error(what, int(errno))
			}
			if len(l.Entries()) != 0 || l.Head() != (api.Hash{}) {
				t.Error(what, l.Entries(), l.Head())
			}
		}
	}
	l := audit.New()
	hold(t, l, nil)
	must(t, l, 0, "", "")
}
