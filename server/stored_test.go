package server_test

import (
	"slices"
	"strconv"
	"strings"
	"testing"

	"ingot/api"
	"ingot/server"
)

// keptOf tells what is stored of the calls that were done.
func keptOf(done []api.Done) []api.Pair {
	var out []api.Pair
	number := 0
	for _, d := range done {
		if changing(d.Call.Kind) && (d.Status == 200 || d.Status == 201) {
			number++
			out = append(out, pairsOf(number, bytesOf(d.Tick, d.Call))...)
		}
	}
	return out
}

// all sends requests of all kinds, of which each answers, and some of each that do not; it calls told behind each of them.
func (w *world) all(told func()) {
	w.Helper()
	line := one("ann", "a/b", "x")
	other := one("bob", "c", times(150))
	for i, c := range []struct {
		status               int
		user, method, target string
		form                 []string
	}{
		{201, "", "POST", "/users", []string{"name", "dee", "secret", "s"}},
		{409, "", "POST", "/users", []string{"name", "dee", "secret", "s"}},
		{201, "", "POST", "/tokens", []string{"user", "dee", "secret", "s", "for", "5"}},
		{401, "", "POST", "/tokens", []string{"user", "dee", "secret", "x", "for", "5"}},
		{403, "ann", "DELETE", "/tokens/" + w.tokens["bob"], nil},
		{200, "cy", "DELETE", "/tokens/" + w.tokens["cy"], nil},
		{201, "bob", "POST", "/orgs", []string{"name", "p"}},
		{200, "ann", "PUT", "/orgs/o/members/dee", []string{"role", "owner"}},
		{403, "bob", "PUT", "/orgs/o/members/cy", []string{"role", "owner"}},
		{200, "ann", "DELETE", "/orgs/o/members/dee", nil},
		{201, "ann", "POST", "/orgs/o/teams", []string{"name", "ops"}},
		{200, "ann", "PUT", "/orgs/o/teams/ops", []string{"user", "bob"}},
		{201, "ann", "POST", "/orgs/o/rules", []string{"who", "t:ops", "right", "write"}},
		{201, "ann", "POST", "/orgs/o/rules", []string{"who", "*", "right", "read"}},
		{201, "ann", "POST", "/orgs/o/rules", []string{"who", "u:cy", "right", "write"}},
		{200, "ann", "DELETE", "/orgs/o/rules/3", nil},
		{404, "ann", "DELETE", "/orgs/o/rules/3", nil},
		{201, "ann", "POST", "/orgs/o/channels", []string{"name", "side"}},
		{201, "ann", "POST", "/orgs/o/channels/main/fork", []string{"to", "next"}},
		{201, "ann", "POST", "/orgs/o/channels/main/patches", []string{"patch", codeOf(line)}},
		{409, "ann", "POST", "/orgs/o/channels/main/patches", []string{"patch", codeOf(line)}},
		{200, "bob", "GET", "/orgs/o/channels/main/files/a/b", nil},
		{200, "bob", "GET", "/orgs/o/channels/main/log", nil},
		{200, "ann", "DELETE", "/orgs/o/channels/main/patches/" + hexOf(line), nil},
		{200, "ann", "PUT", "/orgs/o/channels/main/policy", []string{"approvals", "1", "veto", "1"}},
		{201, "bob", "POST", "/orgs/o/channels/main/proposals", []string{"patch", codeOf(other)}},
		{200, "ann", "POST", "/orgs/o/proposals/1/votes", []string{"vote", "yes"}},
		{409, "bob", "POST", "/orgs/o/proposals/1/votes", []string{"vote", "yes"}},
		{200, "ann", "POST", "/orgs/o/proposals/1/talk", []string{"text", "é\r\n %"}},
		{200, "bob", "GET", "/orgs/o/proposals/1", nil},
		{200, "bob", "POST", "/orgs/o/channels/main/queue/1", nil},
		{200, "ann", "POST", "/orgs/o/channels/main/merge", nil},
		{404, "ann", "POST", "/orgs/o/channels/main/merge", nil},
		{200, "ann", "GET", "/orgs/o/audit", nil},
		{403, "bob", "GET", "/orgs/o/audit", nil},
	} {
		w.now += i % 3
		if out := w.do(c.user, c.method, c.target, c.form...); !strings.HasPrefix(out, "HTTP/1.1 "+strconv.Itoa(c.status)+" ") {
			w.Fatal(c, out)
		}
		told()
	}
}

// P27.3: each call that changes and answered is stored, under the next number; nothing else is.
func TestStored(t *testing.T) {
	w := newWorld(t, 600)
	if want := keptOf(w.s.Done()); !slices.Equal(storedOf(t, w.d), want) || len(want) != 9 {
		t.Fatal(storedOf(t, w.d))
	}
	stored, failed := map[int]int{}, map[int]int{}
	ops := w.d.Ops()
	w.all(func() {
		l := w.s.Done()
		d := l[len(l)-1]
		if !slices.Equal(storedOf(t, w.d), keptOf(l)) {
			t.Fatal(d, storedOf(t, w.d))
		}
		if len(keptOf(l)) > len(keptOf(l[:len(l)-1])) {
			stored[d.Call.Kind]++
			if pairs := keptOf(l[len(l)-1:]); w.d.Ops() != ops+sectorsOf(pairs)+1 {
				t.Error(d, w.d.Ops()-ops)
			}
		} else {
			failed[d.Call.Kind]++
			if w.d.Ops() != ops {
				t.Error(d, "touched the disk")
			}
		}
		ops = w.d.Ops()
	})
	for kind := 1; kind <= 24; kind++ {
		if (stored[kind] > 0) != changing(kind) || failed[kind] == 0 && !changing(kind) {
			t.Error(kind, stored[kind], failed[kind])
		}
	}
	before := w.s.Dump()
	w.crash()
	if !slices.Equal(w.s.Dump(), before) || len(w.s.Done()) != 0 {
		t.Error(w.s.Dump(), before)
	}
}

// sectorsOf tells how many sectors of a log a transaction has that puts pairs: a put is the byte 1, the key and the value as texts, and all that a text.
func sectorsOf(pairs []api.Pair) int {
	size := func(n int) int { // a text's
		if n < 128 {
			return n + 1
		}
		return n + 2
	}
	bytes := 0
	for _, p := range pairs {
		bytes += size(1 + size(len(p.Key)) + size(len(p.Value)))
	}
	return (bytes + api.Load - 1) / api.Load
}

// long asks for a token by a call of several pieces.
func long(n int) string {
	var l []string
	for range n / 1000 {
		l = append(l, "x", times(1000))
	}
	return ask("POST", "/tokens", "", append(l, "user", "ann", "secret", "s-ann", "for", "9", "y", times(n%1000))...)
}

// P27.3: calls of several pieces, of each length about those of whole pieces.
func TestPieces(t *testing.T) {
	met := map[int]int{}
	for _, from := range []int{1990, 4040, 6060, 8000} {
		w := opened(t, 4096)
		w.enter("ann")
		for n := range 40 {
			if out := w.send(n%8, long(from+n)); !strings.HasPrefix(out, "HTTP/1.1 201") {
				t.Fatal(out)
			}
			l := w.s.Done()
			met[len(bytesOf(0, l[len(l)-1].Call))%api.MaxValue]++
		}
		if stored := storedOf(t, w.d); !slices.Equal(stored, keptOf(w.s.Done())) {
			t.Error(from, len(stored))
		}
		before := w.s.Dump()
		w.crash()
		if !slices.Equal(w.s.Dump(), before) {
			t.Error("opened again it is another one")
		}
	}
	if met[0] < 2 || met[1] < 2 || met[api.MaxValue-1] < 2 {
		t.Error(met)
	}
}

const full = "60\n"

// P27.3, P27.7: a call for which there is no room changes nothing; smaller ones go on.
func TestFull(t *testing.T) {
	goesOn := 0
	for sectors := 20; sectors < 60; sectors += 3 {
		w := opened(t, sectors)
		w.enter("ann")
		was, refused := "", 0
		done := w.s.Done()
		for i := range 60 {
			w.now = i
			before, stored := w.s.Dump(), storedOf(t, w.d)
			text, want := signup("u"+strconv.Itoa(i)), made("u"+strconv.Itoa(i)+"\n")
			if i%2 == 1 {
				text, want = long(1000+i), ""
			}
			if i%4 > 1 {
				text = strings.Replace(text, "\r\n", "\r\nconnection: close\r\n", 1)
				want = strings.Replace(want, "\r\n\r\n", "\r\nconnection: close\r\n\r\n", 1)
			}
			w.feed(i%8, text)
			w.picks(i%4, 3)
			out := w.s.Take(i % 8)
			d := w.s.Done()[len(w.s.Done())-1]
			done = append(done, d)
			switch d.Status {
			case 201:
				if want != "" && out != want || !slices.Equal(storedOf(t, w.d), keptOf(done)) {
					t.Fatal(out)
				}
			case 507:
				refused++
				closed := []bool{true}[:i%4/2]
				if out != says(507, "text/plain", full, closed...) || d.Conn != i%8 || d.Tick != i || !slices.Equal(w.s.Dump(), before) || !slices.Equal(storedOf(t, w.d), stored) {
					t.Fatal(out, d, w.s.Dump(), before)
				}
			default:
				t.Fatal(d)
			}
			if was += strconv.Itoa(d.Status) + " "; w.s.Feed(i%8, nil) != api.OK {
				w = reopened(w)
			}
		}
		if refused < 10 {
			t.Error(sectors, was)
		}
		goesOn += strings.Count(was, "507 201")
	}
	if goesOn < 10 {
		t.Error(goesOn)
	}
}

// reopened is a world whose server was closed without a loss, so that all connections are new.
func reopened(w *world) *world {
	w.Helper()
	before := w.s.Dump()
	w.open()
	if !slices.Equal(before, w.s.Dump()) {
		w.Fatal("opened again it is another one")
	}
	return w
}

// P27.3: where there is no room the forge begins anew with what is stored; calls that are not stored are forgotten, as a restart forgets them. The tick stays.
func TestFullForgets(t *testing.T) {
	w := opened(t, 60)
	w.enter("ann")
	w.enter("bob")
	w.want(made("o\n"), "ann", "POST", "/orgs", "name", "o", "rate", "3", "window", "1000")
	w.want(made(""), "ann", "POST", "/orgs/o/channels", "name", "main")
	for i := 0; w.send(0, long(2000-100*min(i, 20))) != says(507, "text/plain", full); i++ {
		if i > 200 {
			t.Fatal("never full")
		}
	}
	// Of ann's hits one is stored, of bob's none.
	for range 3 {
		w.want(plain(""), "bob", "GET", "/orgs/o/channels/main/log")
	}
	w.want(plain(""), "ann", "GET", "/orgs/o/channels/main/log")
	w.want(plain(""), "ann", "GET", "/orgs/o/channels/main/log")
	for _, user := range []string{"ann", "bob"} {
		w.want(says(429, "text/plain", "181\n"), user, "GET", "/orgs/o/channels/main/log")
	}
	w.now = 500
	w.want(says(429, "text/plain", "181\n"), "ann", "POST", "/orgs/o/teams", "name", "x")
	if out := w.send(0, long(3000)); out != says(507, "text/plain", full) {
		t.Fatal(out)
	}
	w.now = 400
	for range 3 {
		w.want(plain(""), "bob", "GET", "/orgs/o/channels/main/log")
	}
	w.want(plain(""), "ann", "GET", "/orgs/o/channels/main/log")
	w.want(plain(""), "ann", "GET", "/orgs/o/channels/main/log")
	for _, user := range []string{"ann", "bob"} {
		w.want(says(429, "text/plain", "181\n"), user, "GET", "/orgs/o/channels/main/log")
	}
	if l := w.s.Done(); l[len(l)-1].Tick != 500 {
		t.Error(l[len(l)-1])
	}
}

// subsets tells all lists of some of n places, or, if these are many, those that are all, none, one, all but one, the first or the last ones.
func subsets(n int) [][]int {
	var out [][]int
	if n <= 6 {
		for set := range 1 << n {
			var l []int
			for i := range n {
				if set>>i&1 == 1 {
					l = append(l, i)
				}
			}
			out = append(out, l)
		}
		return out
	}
	var all []int
	for i := range n {
		all = append(all, i)
	}
	for i := range n + 1 {
		out = append(out, all[:i], all[i:])
		if i < n {
			out = append(out, all[i:i+1], slices.Delete(slices.Clone(all), i, i+1))
		}
	}
	return out
}

// P27.3, P27.6: power goes ahead of each operation of a call's transaction, and any pending writes are kept: opened again the call is there wholly or not at all.
func TestPower(t *testing.T) {
	base := newWorld(t, 120)
	team := ask("POST", "/orgs/o/teams", base.tokens["ann"], "name", "ops")
	rule := ask("POST", "/orgs/o/rules", base.tokens["ann"], "who", "*", "right", "read", "x", times(600))
	for _, text := range []string{signup("dee"), team, rule, long(2400)} {
		met := map[bool]int{}
		base.open()
		before := base.s.Dump()
		after := dumpBehind(t, base, text)
		for n := 0; ; n++ {
			d := base.d.Clone()
			s, e := server.Open(d, []byte("k"))
			if e != api.OK {
				t.Fatal(int(e))
			}
			w := &world{t, d, s, 3, base.tokens}
			w.feed(1, signup("ann"))
			w.picks(1, 3)
			w.feed(1, signup("bob"))
			w.picks(1, 2)
			w.feed(2, text+text)
			w.picks(0, 1)
			w.feed(3, text)
			d.Arm(n)
			if s.Pick(0, 5) {
				break
			}
			w.holdDown(before, text)
			for _, keep := range subsets(len(d.Pending())) {
				w := &world{t, d.Clone(), nil, 0, base.tokens}
				w.crash(keep...)
				switch now := w.s.Dump(); {
				case slices.Equal(now, before) && len(storedOf(t, w.d)) == 9:
					met[false]++
				case slices.Equal(now, after) && len(storedOf(t, w.d)) > 9:
					met[true]++
				default:
					t.Fatalf("%q: behind %d operations, with %v: %q", text, n, keep, now)
				}
			}
		}
		if met[false] < 2 || met[true] < 1 {
			t.Error(met)
		}
	}
}

// dumpBehind tells the state of a copy of a world behind a request.
func dumpBehind(t *testing.T, w *world, text string) []api.Pair {
	t.Helper()
	other := &world{t, w.d.Clone(), nil, 5, w.tokens}
	other.open()
	if out := other.send(0, text); !strings.HasPrefix(out, "HTTP/1.1 201") {
		t.Fatal(out)
	}
	return other.s.Dump()
}

// holdDown holds what a server tells that went down within TestPower: what it told ahead of that, and nothing more.
func (w *world) holdDown(before []api.Pair, text string) {
	w.Helper()
	for range 3 {
		for worker := range api.MaxWorkers {
			if w.s.Pick(worker, 9) {
				w.Error("a pick of a server that is down", worker)
			}
		}
	}
	for conn := range api.MaxConns {
		if e := w.s.Feed(conn, []byte(text)); e != api.ErrPower {
			w.Error(conn, int(e))
		}
	}
	if w.s.Phase(0) != 1 || w.s.Phase(1) != 2 || w.s.Phase(2) != 0 || w.s.Idle() {
		w.Error(w.s.Phase(0), w.s.Phase(1), w.s.Phase(2))
	}
	if l := w.s.Done(); len(l) != 2 || l[1].Tick != 3 || l[1].Status != 409 {
		w.Error(l)
	}
	if !slices.Equal(w.s.Dump(), before) {
		w.Error(w.s.Dump())
	}
	if w.s.Take(1) != says(409, "text/plain", "110\n") || w.s.Take(1) != "" || w.s.Take(2) != "" {
		w.Error("another output")
	}
}

// Calls that store nothing need no power.
func TestReadsWithoutPower(t *testing.T) {
	w := newWorld(t, 60)
	w.d.Arm(0)
	w.want(plain(""), "ann", "GET", "/orgs/o/channels/main/log")
	w.want(says(409, "text/plain", "110\n"), "", "POST", "/users", "name", "ann", "secret", "s")
	if w.d.Down() {
		t.Error("down")
	}
	w.feed(0, signup("dee"))
	w.picks(0, 1)
	if w.s.Pick(0, 0) || !w.d.Down() {
		t.Error("not down")
	}
	// A server that is down stays so, whatever becomes of its disk.
	w.d.Restart(nil)
	if w.s.Pick(0, 0) || w.s.Feed(0, nil) != api.ErrPower {
		t.Error("up again")
	}
}

// P27.8: each event that waits is replied behind three picks that were true, whichever workers are picked.
func TestProgress(t *testing.T) {
	for seed := range 30 {
		w := opened(t, 400)
		events := 0
		for conn := range api.MaxConns {
			for i := range (seed + conn) % 5 {
				w.feed(conn, []string{signup("u" + strconv.Itoa(10*conn+i)), "GET /x HTTP/1.1\r\n\r\n", ask("GET", "/orgs/o/audit", "")}[(i+seed)%3])
				events++
			}
			if (seed+conn)%4 == 0 {
				w.feed(conn, "x\r\n")
				events++
			}
		}
		picks := 0
		for round := 0; !w.s.Idle(); round++ {
			for worker := range api.MaxWorkers {
				if (worker+round)%(1+seed%4) == 0 && w.s.Pick(worker, round) {
					picks++
				}
			}
			if round > 1000 {
				t.Fatal("no end")
			}
		}
		replies := 0
		for conn := range api.MaxConns {
			replies += strings.Count(w.s.Take(conn), "HTTP/1.1 ")
		}
		if picks != 3*events || replies != events {
			t.Error(seed, picks, events, replies)
		}
		for worker := range api.MaxWorkers {
			if w.s.Pick(worker, 0) {
				t.Error("a pick of an idle server")
			}
		}
	}
}
