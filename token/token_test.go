package token_test

import (
	"crypto/hmac"
	"crypto/sha256"
	"encoding/hex"
	"fmt"
	"math"
	"math/rand"
	"slices"
	"strings"
	"testing"

	"ingot/api"
	"ingot/token"
)

func want(t *testing.T, what string, got, is api.Errno) {
	t.Helper()
	if got != is {
		t.Errorf("%s: %d, not %d", what, int(got), int(is))
	}
}

// signed tells a token's text by the library's own keyed digest.
func signed(secret, body string) string {
	m := hmac.New(sha256.New, []byte(secret))
	m.Write([]byte(body))
	return body + "." + hex.EncodeToString(m.Sum(nil))
}

func must(t *testing.T, b *token.Book, user string, now, until int) string {
	t.Helper()
	s, e := b.Issue(user, now, until)
	if e != api.OK {
		t.Fatalf("Issue(%q, %d, %d): %d", user, now, until, int(e))
	}
	return s
}

func wantCheck(t *testing.T, what string, b *token.Book, s string, now int, user string, e api.Errno) {
	t.Helper()
	if u, got := b.Check(s, now); u != user || got != e {
		t.Errorf("%s: Check at %d: %q %d, not %q %d", what, now, u, int(got), user, int(e))
	}
}

// The chapter's example.
func TestExample(t *testing.T) {
	b := token.New([]byte("k"))
	s := must(t, b, "ann", 0, 9)
	if s != signed("k", "1.ann.9") || !strings.HasPrefix(s, "1.ann.9.") || len(s) != len("1.ann.9.")+64 {
		t.Error(s)
	}
	wantCheck(t, "the example", b, s, 8, "ann", api.OK)
	wantCheck(t, "the example", b, s, 9, "", api.ErrExpired)
}

// P16.1: the texts of tokens, for secrets and users of all kinds, numbered from 1 on.
func TestTexts(t *testing.T) {
	users := []string{"ann", "a", "No Name", "\x00", "\xff\xfe", "é", "1", strings.Repeat("u", 1000), "a\nb", "-"}
	for _, secret := range []string{"", "k", "\x00", strings.Repeat("s", 64), strings.Repeat("s", 65), strings.Repeat("s", 1000)} {
		b := token.New([]byte(secret))
		for i, user := range users {
			until := []int{1, 9, 10, 4095, api.MaxTime}[i%5]
			if s := must(t, b, user, 0, until); s != signed(secret, fmt.Sprintf("%d.%s.%d", i+1, user, until)) {
				t.Errorf("%q", s)
			} else {
				wantCheck(t, user, b, s, 0, user, api.OK)
			}
		}
		if b.Len() != len(users) {
			t.Error(b.Len())
		}
	}
	b := token.New(nil)
	if s := must(t, b, "ann", 0, 1); s != signed("", "1.ann.1") {
		t.Error(s)
	}
}

// P16.1: each error, of several the first one; a call with an error gives out no number.
func TestIssueErrors(t *testing.T) {
	b := token.New([]byte("k"))
	for _, c := range []struct {
		what       string
		user       string
		now, until int
		want       api.Errno
	}{
		{"no user", "", 0, 9, api.ErrArg},
		{"a point", ".", 0, 9, api.ErrArg},
		{"a point within", "a.b", 0, 9, api.ErrArg},
		{"a point ahead", ".ann", 0, 9, api.ErrArg},
		{"a point behind", "ann.", 0, 9, api.ErrArg},
		{"below 0", "ann", -1, 9, api.ErrArg},
		{"far below 0", "ann", math.MinInt, 9, api.ErrArg},
		{"above MaxTime", "ann", 0, api.MaxTime + 1, api.ErrArg},
		{"far above MaxTime", "ann", 0, math.MaxInt, api.ErrArg},
		{"above MaxTime, and not above now", "ann", math.MaxInt, api.MaxTime + 1, api.ErrArg},
		{"below 0, and not above now", "ann", -1, -2, api.ErrArg},
		{"no user, and not above now", "", 9, 9, api.ErrArg},
		{"a point, and not above now", "a.b", 9, 8, api.ErrArg},
		{"the same", "ann", 9, 9, api.ErrExpired},
		{"0 and 0", "ann", 0, 0, api.ErrExpired},
		{"one below", "ann", 9, 8, api.ErrExpired},
		{"until below 0", "ann", 0, -1, api.ErrExpired},
		{"until far below 0", "ann", 0, math.MinInt, api.ErrExpired},
		{"MaxTime twice", "ann", api.MaxTime, api.MaxTime, api.ErrExpired},
		{"now above MaxTime", "ann", api.MaxTime + 1, api.MaxTime, api.ErrExpired},
		{"now far above MaxTime", "ann", math.MaxInt, 9, api.ErrExpired},
	} {
		if s, e := b.Issue(c.user, c.now, c.until); s != "" || e != c.want {
			t.Errorf("%s: %q %d, not %d", c.what, s, int(e), int(c.want))
		}
	}
	if b.Len() != 0 {
		t.Error(b.Len())
	}
	if s := must(t, b, "ann", api.MaxTime-1, api.MaxTime); s != signed("k", "1.ann.1099511627776") {
		t.Error(s)
	}
	if s := must(t, b, "ann", 0, 1); s != signed("k", "2.ann.1") {
		t.Error(s)
	}
}

// P16.1, P16.3: MaxTokens are given out, not one more, whatever was taken back or is over; P16.5: no two are the same.
func TestLong(t *testing.T) {
	b := token.New([]byte("k"))
	var all []string
	for i := range api.MaxTokens {
		s := must(t, b, "ann", 0, 9)
		if s != signed("k", fmt.Sprintf("%d.ann.9", i+1)) || slices.Contains(all, s) || b.Len() != i+1 {
			t.Fatal(s, b.Len())
		}
		all = append(all, s)
	}
	for _, c := range []struct {
		user       string
		now, until int
		want       api.Errno
	}{{"ann", 0, 9, api.ErrLong}, {"bob", 100, 101, api.ErrLong}, {"ann", 9, 9, api.ErrExpired}, {"", 0, 9, api.ErrArg}, {"ann", -1, 9, api.ErrArg}} {
		if s, e := b.Issue(c.user, c.now, c.until); s != "" || e != c.want {
			t.Errorf("%v: %q %d", c, s, int(e))
		}
	}
	for i, s := range all {
		wantCheck(t, "given out", b, s, 8, "ann", api.OK)
		if i%2 == 0 {
			want(t, "Revoke", b.Revoke(s), api.OK)
		}
	}
	if s, e := b.Issue("ann", 0, 9); s != "" || e != api.ErrLong || b.Len() != api.MaxTokens {
		t.Error(s, int(e), b.Len())
	}
	for i, s := range all {
		if i%2 == 0 {
			wantCheck(t, "taken back", b, s, 8, "", api.ErrRevoked)
		} else {
			wantCheck(t, "given out", b, s, 8, "ann", api.OK)
		}
	}
}

// P16.2: the times at which a token is taken; a time may be any number.
func TestTimes(t *testing.T) {
	b := token.New([]byte("k"))
	for _, until := range []int{1, 9, api.MaxTime} {
		s := must(t, b, "ann", until-1, until)
		for _, now := range []int{math.MinInt, -1, 0, until - 1} { // ahead of when it was given out, too
			wantCheck(t, s, b, s, now, "ann", api.OK)
		}
		for _, now := range []int{until, until + 1, api.MaxTime, api.MaxTime + 1, math.MaxInt} {
			wantCheck(t, s, b, s, now, "", api.ErrExpired)
		}
		wantCheck(t, "again, at an earlier time", b, s, until-1, "ann", api.OK)
	}
}

// P16.2, P16.3: of the errors the first one; a token that is over can be taken back.
func TestRevoke(t *testing.T) {
	b := token.New([]byte("k"))
	one, two := must(t, b, "ann", 0, 9), must(t, b, "ann", 0, 9)
	want(t, "Revoke", b.Revoke(one), api.OK)
	for _, now := range []int{math.MinInt, 0, 8, 9, math.MaxInt} {
		wantCheck(t, "taken back", b, one, now, "", api.ErrRevoked)
	}
	wantCheck(t, "the other one", b, two, 8, "ann", api.OK)
	want(t, "Revoke again", b.Revoke(one), api.ErrRevoked)
	wantCheck(t, "taken back", b, one, 8, "", api.ErrRevoked)
	wantCheck(t, "the other one is over", b, two, 9, "", api.ErrExpired)
	want(t, "Revoke of what is over", b.Revoke(two), api.OK)
	wantCheck(t, "the other one", b, two, 8, "", api.ErrRevoked)
	if b.Len() != 2 {
		t.Error(b.Len())
	}
	if s := must(t, b, "ann", 0, 9); s != signed("k", "3.ann.9") {
		t.Error(s)
	}
}

// near tells texts that are nearly a token: each byte turned, gone, or doubled, and each piece of it.
func near(s string) []string {
	out := []string{"", ".", "...", s + ".", s + " ", s + "0", s + "00", " " + s, "0" + s, "+" + s, strings.ToUpper(s), s + s, s + "\x00"}
	for i := range len(s) {
		for _, turn := range []byte{1, 2, 4, 8, 16, 32, 64, 128} {
			b := []byte(s)
			b[i] ^= turn
			out = append(out, string(b))
		}
		out = append(out, s[:i], s[i+1:], s[:i]+s[i+1:], s[:i]+s[i:i+1]+s[i:])
	}
	return slices.DeleteFunc(out, func(other string) bool { return other == s })
}

// P16.2 to P16.4: what the book did not give out is no token, be it ever so near.
func TestNoTokens(t *testing.T) {
	b := token.New([]byte("k"))
	s := must(t, b, "ann", 0, 9)
	none := near(s)
	for _, body := range []string{ // made with the book's own secret, but not given out
		"1.ann.10", "1.ann.8", "2.ann.9", "0.ann.9", "1.bob.9", "01.ann.9", "1.ann.09", "+1.ann.9", "1.ann.+9", "1.ann.9.", ".ann.9", "1.ann.", "1..9", "ann", "", "1.ann.9 ",
	} {
		none = append(none, signed("k", body))
	}
	none = append(none, signed("j", "1.ann.9"), signed("", "1.ann.9"), signed("k\x01", "1.ann.9"), "1.ann.9."+strings.Repeat("0", 64), "1.ann.9")
	digits := s[len(s)-64:]
	none = append(none, "1.ann.9."+strings.ToUpper(digits), "1.ann.9."+digits[:62], digits, "."+digits)
	for _, other := range none {
		wantCheck(t, fmt.Sprintf("%q", other), b, other, 8, "", api.ErrToken)
		wantCheck(t, fmt.Sprintf("%q", other), b, other, 99, "", api.ErrToken)
		want(t, fmt.Sprintf("Revoke of %q", other), b.Revoke(other), api.ErrToken)
	}
	wantCheck(t, "behind all of them", b, s, 8, "ann", api.OK)
	want(t, "Revoke", b.Revoke(s), api.OK)
	for _, other := range none {
		wantCheck(t, "behind Revoke", b, other, 8, "", api.ErrToken)
		want(t, "behind Revoke", b.Revoke(other), api.ErrToken)
	}
}

// P16.4: a token is taken from when it is given out on, by its own book alone.
func TestBooksApart(t *testing.T) {
	b, same, other := token.New([]byte("k")), token.New([]byte("k")), token.New([]byte("j"))
	s := signed("k", "1.ann.9")
	wantCheck(t, "not given out yet", b, s, 8, "", api.ErrToken)
	want(t, "not given out yet", b.Revoke(s), api.ErrToken)
	if got := must(t, b, "ann", 0, 9); got != s {
		t.Fatal(got)
	}
	must(t, other, "ann", 0, 9)
	wantCheck(t, "given out", b, s, 8, "ann", api.OK)
	wantCheck(t, "another book of that secret", same, s, 8, "", api.ErrToken)
	wantCheck(t, "another book", other, s, 8, "", api.ErrToken)
	must(t, same, "ann", 0, 9)
	want(t, "Revoke", same.Revoke(s), api.OK)
	wantCheck(t, "taken back by another book", b, s, 8, "ann", api.OK)
	if b.Len() != 1 || same.Len() != 1 {
		t.Error(b.Len(), same.Len())
	}
}

// Rule 1: a book that no call made.
func TestNotMade(t *testing.T) {
	for what, b := range map[string]*token.Book{"nil": nil, "plain": {}} {
		s, e := b.Issue("ann", 0, 9)
		want(t, what+" Issue", e, api.ErrNil)
		_, e = b.Issue("", -1, -1)
		want(t, what+" Issue", e, api.ErrNil)
		u, e := b.Check("", 0)
		want(t, what+" Check", e, api.ErrNil)
		_, e = b.Check(signed("", "1.ann.9"), 0)
		want(t, what+" Check", e, api.ErrNil)
		want(t, what+" Revoke", b.Revoke(""), api.ErrNil)
		if s != "" || u != "" || b.Len() != 0 {
			t.Error(what, s, u, b.Len())
		}
	}
}

// Rule 4: the secret is neither changed nor kept, its spare room neither.
func TestMemory(t *testing.T) {
	room := []byte("secret and spare room")
	secret := room[:6]
	b := token.New(secret)
	one := must(t, b, "ann", 0, 9)
	wantCheck(t, "the secret's spare room", b, one, 0, "ann", api.OK)
	if string(room) != "secret and spare room" {
		t.Errorf("%q", room)
	}
	for i := range room {
		room[i] = 'x'
	}
	wantCheck(t, "another secret", b, one, 0, "ann", api.OK)
	if two := must(t, b, "ann", 0, 9); one != signed("secret", "1.ann.9") || two != signed("secret", "2.ann.9") {
		t.Error(one, two)
	}
}

// given is a token in the words of the chapter.
type given struct {
	text, user string
	until      int
	back       bool
}

// model is a book: what it gave out, in order.
type model []given

func (m *model) issue(user string, now, until int) (string, api.Errno) {
	switch {
	case user == "" || strings.Contains(user, ".") || now < 0 || until > 1<<40:
		return "", api.ErrArg
	case until <= now:
		return "", api.ErrExpired
	case len(*m) == 256:
		return "", api.ErrLong
	}
	s := signed("secret", fmt.Sprintf("%d.%s.%d", len(*m)+1, user, until))
	*m = append(*m, given{s, user, until, false})
	return s, api.OK
}

func (m model) find(s string) int {
	return slices.IndexFunc(m, func(g given) bool { return g.text == s })
}

func (m model) check(s string, now int) (string, api.Errno) {
	at := m.find(s)
	switch {
	case at < 0:
		return "", api.ErrToken
	case m[at].back:
		return "", api.ErrRevoked
	case now >= m[at].until:
		return "", api.ErrExpired
	}
	return m[at].user, api.OK
}

func (m model) revoke(s string) api.Errno {
	at := m.find(s)
	switch {
	case at < 0:
		return api.ErrToken
	case m[at].back:
		return api.ErrRevoked
	}
	m[at].back = true
	return api.OK
}

// P16.1 to P16.5: calls by chance, held against the model.
func TestChance(t *testing.T) {
	for seed := range int64(10) {
		r := rand.New(rand.NewSource(seed))
		b, m := token.New([]byte("secret")), model{}
		times := func() int { return r.Intn(20) - 2 }
		some := func() string {
			if len(m) == 0 || r.Intn(8) == 0 {
				return signed("secret", fmt.Sprintf("%d.ann.%d", len(m)+1, times()))
			}
			s := m[r.Intn(len(m))].text
			if all := near(s); r.Intn(4) == 0 {
				return all[r.Intn(len(all))]
			}
			return s
		}
		for range 600 {
			switch r.Intn(4) {
			case 0, 1:
				user, now, until := []string{"ann", "bob", "", "a.b", "c"}[r.Intn(5)], times(), times()
				s, e := b.Issue(user, now, until)
				if s2, e2 := m.issue(user, now, until); s != s2 || e != e2 {
					t.Fatalf("seed %d: Issue %q %d %d: %q %d, not %q %d", seed, user, now, until, s, int(e), s2, int(e2))
				}
			case 2:
				s := some()
				if r.Intn(3) == 0 {
					if e, e2 := b.Revoke(s), m.revoke(s); e != e2 {
						t.Fatalf("seed %d: Revoke %q: %d, not %d", seed, s, int(e), int(e2))
					}
				}
			case 3:
				s, now := some(), times()
				u, e := b.Check(s, now)
				if u2, e2 := m.check(s, now); u != u2 || e != e2 {
					t.Fatalf("seed %d: Check %q at %d: %q %d, not %q %d", seed, s, now, u, int(e), u2, int(e2))
				}
			}
			if b.Len() != len(m) {
				t.Fatal(seed, b.Len(), len(m))
			}
		}
		for _, g := range m {
			wantCheck(t, "at the end", b, g.text, g.until-1, map[bool]string{false: g.user}[g.back], map[bool]api.Errno{true: api.ErrRevoked}[g.back])
		}
	}
}
