package audit_test

import (
	"crypto/sha256"
	"encoding/binary"
	"math/rand"
	"strings"
	"testing"

	"ingot/api"
	"ingot/audit"
)

// digest is an entry's digest by the library's own numbers and digests.
func digest(e api.Entry) api.Hash {
	var b []byte
	for _, n := range []int{e.Seq, e.Tick} {
		if n < 0 {
			n = 0
		}
		b = binary.AppendUvarint(b, uint64(n))
	}
	for _, s := range []string{e.Who, e.What} {
		b = append(binary.AppendUvarint(b, uint64(len(s))), s...)
	}
	return sha256.Sum256(append(b, e.Prev[:]...))
}

// isChain tells chains by the words of the chapter.
func isChain(l []api.Entry) bool {
	if len(l) > 4096 {
		return false
	}
	prev, tick := api.Hash{}, 0
	for i, e := range l {
		if e.Seq != i+1 || e.Prev != prev || e.Tick < tick || e.Tick > 1<<40 || len(e.Who) > 16 || len(e.What) > 512 {
			return false
		}
		prev, tick = digest(e), e.Tick
	}
	return true
}

// place tells the first entry with which the beginning of a list is no chain; -1, if there is none.
func place(l []api.Entry) int {
	for i := range l {
		if !isChain(l[:i+1]) {
			return i
		}
	}
	return -1
}

// headOf tells the digest of the last entry; noughts, if there is none.
func headOf(l []api.Entry) api.Hash {
	if len(l) == 0 {
		return api.Hash{}
	}
	return digest(l[len(l)-1])
}

// bind makes entries of these a chain as far as Seq and Prev go.
func bind(l []api.Entry) []api.Entry {
	out := make([]api.Entry, 0, len(l))
	for i, e := range l {
		e.Seq, e.Prev = i+1, headOf(out)
		out = append(out, e)
	}
	return out
}

// model is a log in the words of the chapter: an entry comes if the list is a chain with it behind.
type model struct{ entries []api.Entry }

func (m *model) append(tick int, who, what string) (api.Entry, api.Errno) {
	for _, e := range m.entries {
		if tick < e.Tick {
			return api.Entry{}, api.ErrArg
		}
	}
	if tick < 0 || tick > 1<<40 {
		return api.Entry{}, api.ErrArg
	}
	all := bind(append(m.entries[:len(m.entries):len(m.entries)], api.Entry{Tick: tick, Who: who, What: what}))
	if !isChain(all) {
		return api.Entry{}, api.ErrLong
	}
	m.entries = all
	return all[len(all)-1], api.OK
}

// text is a text of about so many bytes at most, now and then one byte beyond.
func text(r *rand.Rand, most int) string {
	n := []int{0, 1, r.Intn(most), most - 1, most, most, most + 1}[r.Intn(7)]
	return strings.Repeat(string(rune('a'+r.Intn(26))), n)
}

// P19.1, P19.3, P19.4: calls by chance, held against the model behind each of them; now and then the log goes on as one that was loaded.
func TestChance(t *testing.T) {
	for seed := range int64(60) {
		r := rand.New(rand.NewSource(seed))
		l, m := audit.New(), &model{}
		tick := 0
		for range 60 {
			now := tick + r.Intn(6) - 2
			who, what := text(r, 16), text(r, 512)
			got, e := l.Append(now, who, what)
			is, f := m.append(now, who, what)
			if got != is || e != f {
				t.Fatalf("seed %d: %v %d, not %v %d", seed, got, int(e), is, int(f))
			}
			if e == api.OK {
				tick = now
			}
			hold(t, l, m.entries)
			if r.Intn(10) == 0 {
				l = load(t, l.Entries())
			}
		}
	}
}

// turned is a list of which something was changed by chance.
func turned(r *rand.Rand, l []api.Entry) []api.Entry {
	at := r.Intn(len(l))
	e := &l[at]
	switch r.Intn(9) {
	case 0:
		e.Seq += r.Intn(5) - 2
	case 1:
		e.Tick += r.Intn(5) - 2
	case 2:
		e.Tick = []int{-1, 0, 1 << 40, 1<<40 + 1}[r.Intn(4)]
	case 3:
		e.Who = text(r, 16)
	case 4:
		e.What = text(r, 512)
	case 5:
		e.Prev[r.Intn(32)] ^= byte(1 << r.Intn(8))
	case 6:
		l = append(l[:at], l[at+1:]...)
	case 7:
		other := r.Intn(len(l))
		l[at], l[other] = l[other], l[at]
	case 8:
		l = bind(l) // what is bound again may be a chain in spite of other changes
	}
	return l
}

// P19.2, P19.3: chains that were changed once or more often, held against the chapter's words.
func TestTurned(t *testing.T) {
	places := map[int]int{}
	for seed := range int64(3000) {
		r := rand.New(rand.NewSource(seed))
		m := &model{}
		for tick := range 3 + r.Intn(6) {
			m.append(tick/2*r.Intn(3), text(r, 16), text(r, 512))
		}
		l := append([]api.Entry{}, m.entries...)
		for range 1 + r.Intn(3) {
			if len(l) > 0 {
				l = turned(r, l)
			}
		}
		holdList(t, l)
		places[place(l)]++
	}
	for _, at := range []int{-1, 0, 1, 2, 3} {
		if places[at] < 20 {
			t.Error("too few lists whose place is", at, places)
		}
	}
}
