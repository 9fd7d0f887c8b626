package review_test

import (
	"math/rand"
	"slices"
	"strconv"
	"strings"
	"testing"

	"ingot/api"
	"ingot/review"
)

// given is a vote that was given, or (back) one that was taken back.
type given struct {
	user      string
	yes, back bool
}

// proposed is a proposal in the words of the chapter: all that was ever done to it, in order.
type proposed struct {
	author, channel string
	patch           api.Hash
	closed          bool
	votes           []given
	talk            []api.Pair
}

// last tells a user's last vote, if it was not taken back.
func (p *proposed) last(user string) (given, bool) {
	for _, v := range slices.Backward(p.votes) {
		if v.user == user {
			return v, !v.back
		}
	}
	return given{}, false
}

func (p *proposed) who(yes bool) []string {
	var out []string
	for _, v := range p.votes {
		if last, is := p.last(v.user); is && last.yes == yes && !slices.Contains(out, v.user) {
			out = append(out, v.user)
		}
	}
	slices.Sort(out)
	return out
}

// model is a board in the words of the chapter.
type model struct{ all []*proposed }

func (m *model) open() []int {
	var out []int
	for i, p := range m.all {
		if !p.closed {
			out = append(out, i+1)
		}
	}
	return out
}

func (m *model) propose(author, channel string, patch api.Hash) (int, api.Errno) {
	for _, p := range m.all {
		if !p.closed && p.channel == channel && p.patch == patch {
			return 0, api.ErrThere
		}
	}
	if len(m.open()) == 64 {
		return 0, api.ErrLong
	}
	m.all = append(m.all, &proposed{author: author, channel: channel, patch: patch})
	return len(m.all), api.OK
}

func (m *model) vote(id int, user string, yes bool) api.Errno {
	switch {
	case id < 1 || id > len(m.all):
		return api.ErrMissing
	case m.all[id-1].closed:
		return api.ErrClosed
	case m.all[id-1].author == user:
		return api.ErrOwn
	}
	m.all[id-1].votes = append(m.all[id-1].votes, given{user: user, yes: yes})
	return api.OK
}

func (m *model) unvote(id int, user string) api.Errno {
	switch {
	case id < 1 || id > len(m.all):
		return api.ErrMissing
	case m.all[id-1].closed:
		return api.ErrClosed
	}
	if _, is := m.all[id-1].last(user); !is {
		return api.ErrMissing
	}
	m.all[id-1].votes = append(m.all[id-1].votes, given{user: user, back: true})
	return api.OK
}

func (m *model) say(id int, user, text string) api.Errno {
	switch {
	case id < 1 || id > len(m.all):
		return api.ErrMissing
	case len(text) > 200 || len(m.all[id-1].talk) == 32:
		return api.ErrLong
	}
	m.all[id-1].talk = append(m.all[id-1].talk, api.Pair{Key: user, Value: text})
	return api.OK
}

func (m *model) close(id int) api.Errno {
	switch {
	case id < 1 || id > len(m.all):
		return api.ErrMissing
	case m.all[id-1].closed:
		return api.ErrClosed
	}
	m.all[id-1].closed = true
	return api.OK
}

func (m *model) proposal(id int) (api.Proposal, bool) {
	if id < 1 || id > len(m.all) {
		return api.Proposal{}, false
	}
	p := m.all[id-1]
	return api.Proposal{Id: id, Author: p.author, Channel: p.channel, Patch: p.patch, Open: !p.closed, Yes: p.who(true), No: p.who(false), Talk: p.talk}, true
}

// passes tells it by the words of the chapter, user by user.
func passes(p api.Proposal, q api.Policy) bool {
	var yes []string
	for _, user := range p.Yes {
		if user != p.Author && !slices.Contains(yes, user) {
			yes = append(yes, user)
		}
	}
	for _, user := range p.No {
		if q.Veto && user != p.Author {
			return false
		}
	}
	return p.Open && (q.Approvals < 1 || len(yes) >= q.Approvals)
}

func same(a, b api.Proposal) bool {
	return a.Id == b.Id && a.Author == b.Author && a.Channel == b.Channel && a.Patch == b.Patch && a.Open == b.Open &&
		slices.Equal(a.Yes, b.Yes) && slices.Equal(a.No, b.No) && slices.Equal(a.Talk, b.Talk)
}

// hold holds all that a board tells against the model.
func hold(t *testing.T, b *review.Board, m *model) {
	t.Helper()
	if got := b.Open(); !slices.Equal(got, m.open()) {
		t.Fatalf("open %v, not %v", got, m.open())
	}
	for id := -1; id < len(m.all)+3; id++ {
		got, is := b.Proposal(id)
		want, should := m.proposal(id)
		if is != should || !same(got, want) {
			t.Fatalf("proposal %d: %v %v, not %v %v", id, got, is, want, should)
		}
		holdVotes(t, got)
		for approvals := range 5 {
			for _, veto := range []bool{false, true} {
				q := api.Policy{Approvals: approvals - 1, Veto: veto}
				if review.Passes(got, q) != passes(want, q) {
					t.Fatalf("Passes(%v, %v): not %v", got, q, passes(want, q))
				}
			}
		}
	}
}

// holdVotes holds P20.6 out of what is told alone.
func holdVotes(t *testing.T, p api.Proposal) {
	t.Helper()
	all := append(slices.Clone(p.Yes), p.No...)
	slices.Sort(all)
	if len(slices.Compact(slices.Clone(all))) != len(all) || p.Id > 0 && slices.Contains(all, p.Author) {
		t.Fatalf("P20.6: yes %q, no %q, of %q", p.Yes, p.No, p.Author)
	}
}

// chance makes one call of both by chance; how often proposals are closed hangs on the board.
func chance(r *rand.Rand, b *review.Board, m *model, closing int) (what string, got, want api.Errno) {
	one := func(list ...string) string { return list[r.Intn(len(list))] }
	user := one("ann", "bob", "cy", "dan", "", "an", "Ann", "\xff")
	id := r.Intn(len(m.all)+4) - 1
	switch r.Intn(8 + closing) {
	case 0, 1:
		channel, patch := one("main", "side", ""), api.Hash{31: byte(r.Intn(6))}
		n, e := b.Propose(user, channel, patch)
		is, f := m.propose(user, channel, patch)
		if n != is {
			return "Propose's number " + strconv.Itoa(n), api.OK, api.ErrArg
		}
		return "Propose", e, f
	case 2, 3, 4:
		yes := r.Intn(2) == 0
		return "Vote", b.Vote(id, user, yes), m.vote(id, user, yes)
	case 5, 6:
		return "Unvote", b.Unvote(id, user), m.unvote(id, user)
	case 7:
		text := strings.Repeat("x", []int{0, 1, 199, 200, 201}[r.Intn(5)])
		return "Say", b.Say(id, user, text), m.say(id, user, text)
	}
	return "Close", b.Close(id), m.close(id)
}

// P20.1 to P20.6: calls by chance, held against the model behind each of them.
func TestChance(t *testing.T) {
	met := map[string]int{}
	for seed := range int64(80) {
		r := rand.New(rand.NewSource(seed))
		b, m := review.New(), &model{}
		for step := range 200 {
			what, got, want := chance(r, b, m, 1+int(seed%3))
			if got != want {
				t.Fatalf("seed %d, step %d: %s: %d, not %d", seed, step, what, int(got), int(want))
			}
			met[what+" "+strconv.Itoa(int(got))]++
			hold(t, b, m)
		}
	}
	for _, what := range []string{"Propose 0", "Propose 110", "Vote 0", "Vote 111", "Vote 200", "Vote 201", "Unvote 0", "Unvote 111", "Unvote 201", "Say 0", "Say 3", "Say 111", "Close 0", "Close 111", "Close 201"} {
		if met[what] < 20 {
			t.Error("too seldom:", what, met)
		}
	}
}

// P20.5: proposals as no board has them: voters twice, in no order, in both lists, their author among them.
func TestPassesByChance(t *testing.T) {
	met := map[bool]int{}
	for seed := range int64(5000) {
		r := rand.New(rand.NewSource(seed))
		list := func() []string {
			out := make([]string, r.Intn(6))
			for i := range out {
				out[i] = []string{"ann", "ann", "bob", "cy", "dan", ""}[r.Intn(6)]
			}
			return out
		}
		p := api.Proposal{Author: []string{"ann", "", "bob"}[r.Intn(3)], Open: r.Intn(5) > 0, Yes: list()}
		if r.Intn(2) == 0 {
			p.No = list()
		}
		q := api.Policy{Approvals: r.Intn(6) - 1, Veto: r.Intn(2) == 0}
		yes, no := slices.Clone(p.Yes), slices.Clone(p.No)
		got := review.Passes(p, q)
		if got != passes(p, q) {
			t.Fatalf("Passes(%v, %v): %v", p, q, got)
		}
		if !slices.Equal(p.Yes, yes) || !slices.Equal(p.No, no) {
			t.Fatal("what was handed in has changed")
		}
		met[got]++
	}
	if met[true] < 500 || met[false] < 500 {
		t.Error(met)
	}
}

// P20.7: from any state of a proposal, one more vote for it, by whomever, makes none that passes pass no more; one more against it makes none pass.
func TestMonotone(t *testing.T) {
	users := []string{"ann", "bob", "cy", "dan"}
	for seed := range int64(300) {
		r := rand.New(rand.NewSource(seed))
		b := review.New()
		b.Propose("ann", "main", api.Hash{})
		for range 20 {
			user, yes := users[r.Intn(len(users))], r.Intn(2) == 0
			if r.Intn(3) == 0 {
				b.Unvote(1, user)
			}
			ahead, _ := b.Proposal(1)
			b.Vote(1, user, yes)
			behind, _ := b.Proposal(1)
			for approvals := range 5 {
				for _, veto := range []bool{false, true} {
					q := api.Policy{Approvals: approvals, Veto: veto}
					was, is := review.Passes(ahead, q), review.Passes(behind, q)
					if was && !is && yes || !was && is && !yes {
						t.Fatalf("P20.7: seed %d: %v, then %v by %v", seed, ahead, behind, q)
					}
				}
			}
		}
	}
}
