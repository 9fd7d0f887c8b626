package review_test

import (
	"math"
	"slices"
	"strconv"
	"strings"
	"testing"

	"ingot/api"
	"ingot/review"
)

func want(t *testing.T, what string, got, is api.Errno) {
	t.Helper()
	if got != is {
		t.Errorf("%s: %d, not %d", what, int(got), int(is))
	}
}

func propose(t *testing.T, b *review.Board, author, channel string, patch byte, id int) {
	t.Helper()
	if got, e := b.Propose(author, channel, api.Hash{patch}); got != id || e != api.OK {
		t.Fatalf("Propose(%q, %q, %d): %d %d, not %d", author, channel, patch, got, int(e), id)
	}
}

func notProposed(t *testing.T, b *review.Board, author, channel string, patch byte, is api.Errno) {
	t.Helper()
	if got, e := b.Propose(author, channel, api.Hash{patch}); got != 0 || e != is {
		t.Errorf("Propose(%q, %q, %d): %d %d, not %d", author, channel, patch, got, int(e), int(is))
	}
}

func must(t *testing.T, b *review.Board, id int) api.Proposal {
	t.Helper()
	p, is := b.Proposal(id)
	if !is {
		t.Fatal("no proposal", id)
	}
	return p
}

func wantVotes(t *testing.T, b *review.Board, id int, yes, no string) {
	t.Helper()
	if p := must(t, b, id); strings.Join(p.Yes, " ") != yes || strings.Join(p.No, " ") != no {
		t.Errorf("votes of %d: %q %q, not %q %q", id, p.Yes, p.No, yes, no)
	}
}

// The chapter's example.
func TestExample(t *testing.T) {
	b := review.New()
	propose(t, b, "ann", "main", 1, 1)
	want(t, "an own vote", b.Vote(1, "ann", true), api.ErrOwn)
	want(t, "bob's vote", b.Vote(1, "bob", true), api.OK)
	p := must(t, b, 1)
	if !review.Passes(p, api.Policy{Approvals: 1}) || review.Passes(p, api.Policy{Approvals: 2}) {
		t.Error(p)
	}
}

// P20.1: a new proposal, and which ones are there already.
func TestPropose(t *testing.T) {
	b := review.New()
	if len(b.Open()) != 0 {
		t.Error(b.Open())
	}
	propose(t, b, "ann", "main", 1, 1)
	if p := must(t, b, 1); !same(p, api.Proposal{Id: 1, Author: "ann", Channel: "main", Patch: api.Hash{1}, Open: true}) {
		t.Error(p)
	}
	notProposed(t, b, "ann", "main", 1, api.ErrThere)
	notProposed(t, b, "bob", "main", 1, api.ErrThere)
	propose(t, b, "ann", "side", 1, 2)
	propose(t, b, "ann", "main", 2, 3)
	propose(t, b, "", "", 0, 4)
	notProposed(t, b, "ann", "", 0, api.ErrThere)
	want(t, "Close", b.Close(1), api.OK)
	propose(t, b, "bob", "main", 1, 5)
	notProposed(t, b, "ann", "main", 1, api.ErrThere)
	if p := must(t, b, 1); p.Author != "ann" || p.Open {
		t.Error(p)
	}
	if p := must(t, b, 5); p.Author != "bob" || !p.Open {
		t.Error(p)
	}
	if got := b.Open(); !slices.Equal(got, []int{2, 3, 4, 5}) {
		t.Error(got)
	}
}

// P20.1: MaxOpen, one more, and that numbers never come again.
func TestMostOpen(t *testing.T) {
	b := review.New()
	for i := range api.MaxOpen {
		propose(t, b, "ann", "main", byte(i), i+1)
	}
	if got := b.Open(); len(got) != 64 || got[0] != 1 || got[63] != 64 {
		t.Error(got)
	}
	for range 2 {
		notProposed(t, b, "ann", "main", 64, api.ErrLong)
		notProposed(t, b, "ann", "main", 0, api.ErrThere)
	}
	want(t, "Close", b.Close(20), api.OK)
	propose(t, b, "ann", "main", 64, 65)
	notProposed(t, b, "ann", "main", 19, api.ErrLong)
	want(t, "Close of the last one", b.Close(65), api.OK)
	propose(t, b, "ann", "main", 64, 66)
	for id := range 67 {
		if e := b.Close(id); (e == api.OK) != (id > 0 && id != 20 && id != 65) {
			t.Error(id, int(e))
		}
	}
	propose(t, b, "ann", "main", 0, 67)
	if got := b.Open(); !slices.Equal(got, []int{67}) {
		t.Error(got)
	}
}

// nowhere are numbers of no proposal of a board that has 2.
var nowhere = []int{0, 3, -1, math.MinInt, math.MaxInt}

// P20.2, P20.3, P20.4: errors of all calls that name a proposal, and their order.
func TestErrors(t *testing.T) {
	b := review.New()
	propose(t, b, "ann", "main", 1, 1)
	propose(t, b, "ann", "main", 2, 2)
	want(t, "Vote", b.Vote(2, "bob", true), api.OK)
	want(t, "Close", b.Close(2), api.OK)
	long := strings.Repeat("x", api.MaxNote+1)
	for _, id := range nowhere {
		want(t, "Vote", b.Vote(id, "ann", true), api.ErrMissing)
		want(t, "Unvote", b.Unvote(id, "ann"), api.ErrMissing)
		want(t, "Say", b.Say(id, "ann", long), api.ErrMissing)
		want(t, "Close", b.Close(id), api.ErrMissing)
		if p, is := b.Proposal(id); is || !same(p, api.Proposal{}) {
			t.Error(id, p)
		}
	}
	want(t, "the author's vote, closed", b.Vote(2, "ann", true), api.ErrClosed)
	want(t, "another one's vote, closed", b.Vote(2, "bob", false), api.ErrClosed)
	want(t, "Unvote, closed", b.Unvote(2, "bob"), api.ErrClosed)
	want(t, "Unvote of no vote, closed", b.Unvote(2, "cy"), api.ErrClosed)
	want(t, "Close, closed", b.Close(2), api.ErrClosed)
	want(t, "the author's vote", b.Vote(1, "ann", false), api.ErrOwn)
	want(t, "the author's Unvote", b.Unvote(1, "ann"), api.ErrMissing)
	want(t, "Unvote of no vote", b.Unvote(1, "bob"), api.ErrMissing)
	want(t, "a long remark", b.Say(1, "ann", long), api.ErrLong)
	wantVotes(t, b, 1, "", "")
	wantVotes(t, b, 2, "bob", "")
	if got := b.Open(); !slices.Equal(got, []int{1}) {
		t.Error(got)
	}
}

// P20.2, P20.4, P20.6: a user's last vote counts; who voted rises byte by byte.
func TestVotes(t *testing.T) {
	b := review.New()
	propose(t, b, "ann", "main", 1, 1)
	propose(t, b, "bob", "main", 2, 2)
	for _, s := range []struct {
		user     string
		yes      bool
		yess, no string
	}{
		{"cy", true, "cy", ""},
		{"cy", true, "cy", ""},
		{"cy", false, "", "cy"},
		{"cy", false, "", "cy"},
		{"bob", true, "bob", "cy"},
		{"cy", true, "bob cy", ""},
		{"bo", true, "bo bob cy", ""},
		{"Z", true, "Z bo bob cy", ""},
		{"é", true, "Z bo bob cy é", ""},
		{"bob", false, "Z bo cy é", "bob"},
		{"an", false, "Z bo cy é", "an bob"},
	} {
		want(t, s.user, b.Vote(1, s.user, s.yes), api.OK)
		wantVotes(t, b, 1, s.yess, s.no)
	}
	wantVotes(t, b, 2, "", "")
	want(t, "Unvote", b.Unvote(1, "bo"), api.OK)
	want(t, "Unvote again", b.Unvote(1, "bo"), api.ErrMissing)
	want(t, "Unvote of one against", b.Unvote(1, "bob"), api.OK)
	wantVotes(t, b, 1, "Z cy é", "an")
	want(t, "a vote again", b.Vote(1, "bo", false), api.OK)
	wantVotes(t, b, 1, "Z cy é", "an bo")
	want(t, "the other one's author", b.Vote(2, "ann", true), api.OK)
	wantVotes(t, b, 2, "ann", "")
	want(t, "Close", b.Close(1), api.OK)
	wantVotes(t, b, 1, "Z cy é", "an bo")
}

// P20.2, P20.4: many voters; what is told of them hangs on no order of a map.
func TestManyVoters(t *testing.T) {
	b := review.New()
	propose(t, b, "ann", "main", 1, 1)
	var yes, no []string
	for i := range 500 {
		user := "u" + strconv.Itoa(i*7919%500)
		want(t, user, b.Vote(1, user, i%3 > 0), api.OK)
		if i%3 > 0 {
			yes = append(yes, user)
		} else {
			no = append(no, user)
		}
	}
	slices.Sort(yes)
	slices.Sort(no)
	for range 20 {
		if p := must(t, b, 1); !slices.Equal(p.Yes, yes) || !slices.Equal(p.No, no) {
			t.Fatal(p)
		}
	}
	p := must(t, b, 1)
	if !review.Passes(p, api.Policy{Approvals: len(yes)}) || review.Passes(p, api.Policy{Approvals: len(yes) + 1}) {
		t.Error(len(yes))
	}
}

// P20.3: remarks at their edges, of an open and of a closed proposal.
func TestSay(t *testing.T) {
	for _, closed := range []bool{false, true} {
		b := review.New()
		propose(t, b, "ann", "main", 1, 1)
		propose(t, b, "ann", "main", 2, 2)
		if closed {
			want(t, "Close", b.Close(1), api.OK)
		}
		var talk []api.Pair
		for i := range api.MaxTalk {
			one := api.Pair{Key: []string{"ann", "bob", "ann", ""}[i%4], Value: strings.Repeat("\xff", []int{0, api.MaxNote, 1, 5}[i%4])}
			want(t, "too long", b.Say(1, "bob", strings.Repeat("x", api.MaxNote+1)), api.ErrLong)
			want(t, "too long in bytes", b.Say(1, "bob", strings.Repeat("é", api.MaxNote/2)+"x"), api.ErrLong)
			want(t, "Say", b.Say(1, one.Key, one.Value), api.OK)
			talk = append(talk, one)
			if p := must(t, b, 1); !slices.Equal(p.Talk, talk) || p.Open == closed {
				t.Fatal(i, p)
			}
		}
		want(t, "one more", b.Say(1, "bob", ""), api.ErrLong)
		want(t, "another one's", b.Say(2, "bob", "x"), api.OK)
		if p := must(t, b, 1); !slices.Equal(p.Talk, talk) || len(p.Yes)+len(p.No) != 0 {
			t.Error(p)
		}
	}
}

// P20.5: policies of all kinds.
func TestPasses(t *testing.T) {
	open := api.Proposal{Id: 1, Author: "ann", Channel: "main", Open: true}
	with := func(yes, no string) api.Proposal {
		p := open
		p.Yes, p.No = strings.Fields(yes), strings.Fields(no)
		return p
	}
	for _, c := range []struct {
		what string
		p    api.Proposal
		q    api.Policy
		want bool
	}{
		{"nothing is needed", open, api.Policy{}, true},
		{"fewer than none", open, api.Policy{Approvals: -1}, true},
		{"by far fewer than none", open, api.Policy{Approvals: math.MinInt}, true},
		{"none of one", open, api.Policy{Approvals: 1}, false},
		{"one of one", with("bob", ""), api.Policy{Approvals: 1}, true},
		{"one of two", with("bob", ""), api.Policy{Approvals: 2}, false},
		{"two of two", with("bob cy", ""), api.Policy{Approvals: 2}, true},
		{"three of two", with("bob cy dan", ""), api.Policy{Approvals: 2}, true},
		{"by far too few", with("bob cy dan", ""), api.Policy{Approvals: math.MaxInt}, false},
		{"one of them twice", with("bob bob", ""), api.Policy{Approvals: 2}, false},
		{"one of them twice, apart", with("bob cy bob", ""), api.Policy{Approvals: 3}, false},
		{"the author", with("ann", ""), api.Policy{Approvals: 1}, false},
		{"the author and another one", with("ann bob", ""), api.Policy{Approvals: 2}, false},
		{"the author and another one, one needed", with("cy ann", ""), api.Policy{Approvals: 1}, true},
		{"one against it, no veto", with("bob", "cy"), api.Policy{Approvals: 1}, true},
		{"one against it, veto", with("bob", "cy"), api.Policy{Approvals: 1, Veto: true}, false},
		{"one against it, veto, nothing needed", with("", "cy"), api.Policy{Veto: true}, false},
		{"one against it, veto, fewer than none needed", with("", "cy"), api.Policy{Approvals: -5, Veto: true}, false},
		{"none against it, veto", with("bob", ""), api.Policy{Approvals: 1, Veto: true}, true},
		{"the author against it, veto", with("bob", "ann ann"), api.Policy{Approvals: 1, Veto: true}, true},
		{"the author and another one against it, veto", with("bob", "ann cy"), api.Policy{Approvals: 1, Veto: true}, false},
		{"one in both lists", with("bob", "bob"), api.Policy{Approvals: 1}, true},
		{"one in both lists, veto", with("bob", "bob"), api.Policy{Approvals: 1, Veto: true}, false},
	} {
		if got := review.Passes(c.p, c.q); got != c.want {
			t.Errorf("%s: %v", c.what, got)
		}
		c.p.Open = false
		if review.Passes(c.p, c.q) {
			t.Errorf("%s, closed: passes", c.what)
		}
	}
	nobody := api.Proposal{Open: true, Yes: []string{"", "bob"}, No: []string{""}}
	if review.Passes(nobody, api.Policy{Approvals: 2}) || !review.Passes(nobody, api.Policy{Approvals: 1, Veto: true}) {
		t.Error("an author without a name counts")
	}
	if review.Passes(api.Proposal{}, api.Policy{}) {
		t.Error("an empty proposal passes")
	}
}

// P20.3, P20.5: what is closed passes by no policy, whatever its votes.
func TestClosedPassesNot(t *testing.T) {
	b := review.New()
	propose(t, b, "ann", "main", 1, 1)
	want(t, "Vote", b.Vote(1, "bob", true), api.OK)
	q := api.Policy{Approvals: 1, Veto: true}
	if !review.Passes(must(t, b, 1), q) {
		t.Error("it does not pass")
	}
	want(t, "Close", b.Close(1), api.OK)
	if p := must(t, b, 1); review.Passes(p, q) || review.Passes(p, api.Policy{}) || p.Open || len(p.Yes) != 1 {
		t.Error(p)
	}
}

// Rule 4: what is handed out is nobody else's memory; lists of one answer share none, boards neither.
func TestMemory(t *testing.T) {
	b, m := review.New(), &model{}
	other := review.New()
	for i := range 3 {
		b.Propose("ann", "main", api.Hash{byte(i)})
		m.propose("ann", "main", api.Hash{byte(i)})
		for _, user := range []string{"bob", "cy", "dan", "eve"} {
			b.Vote(i+1, user, user < "d")
			m.vote(i+1, user, user < "d")
			b.Say(i+1, user, "x")
			m.say(i+1, user, "x")
		}
	}
	hold(t, b, m)
	early, open := must(t, b, 1), b.Open()
	spoil := must(t, b, 1)
	for _, list := range [][]string{spoil.Yes, spoil.No} {
		_ = append(list[:cap(list)], "no one")
		for i := range list[:cap(list)] {
			list[:cap(list)][i] = "no one"
		}
	}
	for i := range spoil.Talk[:cap(spoil.Talk)] {
		spoil.Talk[:cap(spoil.Talk)][i] = api.Pair{Key: "no one"}
	}
	ids := b.Open()
	for i := range ids[:cap(ids)] {
		ids[:cap(ids)][i] = 7
	}
	hold(t, b, m)
	b.Vote(1, "fay", true)
	b.Vote(1, "bob", false)
	b.Say(1, "fay", "y")
	b.Close(2)
	if p, _ := m.proposal(1); !same(early, p) || !slices.Equal(open, []int{1, 2, 3}) {
		t.Error("what was told has changed", early, open)
	}
	hold(t, other, &model{})
}

// Rule 1: a board that no call made stays one, whatever it is asked.
func TestNotMade(t *testing.T) {
	for what, b := range map[string]*review.Board{"nil": nil, "plain": {}} {
		for range 2 {
			notProposed(t, b, "ann", "main", 1, api.ErrNil)
			for _, id := range []int{0, 1, -1, math.MinInt, math.MaxInt} {
				want(t, what+" Vote", b.Vote(id, "bob", true), api.ErrNil)
				want(t, what+" Vote", b.Vote(id, "", false), api.ErrNil)
				want(t, what+" Unvote", b.Unvote(id, "bob"), api.ErrNil)
				want(t, what+" Say", b.Say(id, "bob", strings.Repeat("x", 300)), api.ErrNil)
				want(t, what+" Close", b.Close(id), api.ErrNil)
				if p, is := b.Proposal(id); is || !same(p, api.Proposal{}) {
					t.Error(what, p)
				}
			}
			if len(b.Open()) != 0 {
				t.Error(what, b.Open())
			}
		}
	}
}
