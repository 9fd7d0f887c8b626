package server_test

import (
	"math/rand"
	"slices"
	"strconv"
	"strings"
	"testing"

	"ingot/api"
	"ingot/fields"
	"ingot/forge"
	"ingot/patch"
	"ingot/reply"
	"ingot/request"
	"ingot/route"
)

// sent is a request that was fed, and how many calls were done then.
type sent struct {
	conn int
	call api.Call
	done int
}

// W1, P27.5: requests on all connections, in pieces, carried out by all workers: there is one order of all calls in which a forge replies to each what was replied.
func TestLinear(t *testing.T) {
	for seed := range int64(25) {
		w := newWorld(t, 2000)
		r := rand.New(rand.NewSource(seed))
		k := &maker{Rand: r, tokens: []string{w.tokens["ann"], w.tokens["bob"], w.tokens["cy"]}}
		base := len(w.s.Done())
		var all []sent
		for range 400 {
			switch conn := r.Intn(8); r.Intn(7) {
			case 0:
				text := k.call()
				at := r.Intn(len(text))
				w.feed(conn, text[:at])
				for range r.Intn(4) {
					w.s.Pick(r.Intn(4), r.Intn(30))
				}
				e := request.New().Feed([]byte(text))
				if c, status := route.Read(e[0].Request); status == 0 {
					all = append(all, sent{conn, c, len(w.s.Done())})
				} else {
					t.Fatal(text)
				}
				w.feed(conn, text[at:])
			default:
				w.s.Pick(r.Intn(4), r.Intn(30))
			}
		}
		w.drain(30)
		w.holdLinear(all, base)
	}
}

// holdLinear holds what was replied to requests to a forge that does the calls of Done one by one.
func (w *world) holdLinear(all []sent, base int) {
	w.Helper()
	f := forge.New([]byte("k"))
	var out [8]string
	done := w.s.Done()
	if len(done) != base+len(all) {
		w.Fatal(len(done), base, len(all))
	}
	tick := 0
	for i, d := range done {
		r := f.Do(d.Call, d.Tick)
		if r.Status != d.Status || d.Tick < tick {
			w.Fatal(d, r)
		}
		tick = d.Tick
		if i < base {
			continue
		}
		text, _ := reply.Print(r)
		out[d.Conn] += text
		at := slices.IndexFunc(all, func(s sent) bool { return s.conn == d.Conn })
		if at < 0 || !sameCall(all[at].call, d.Call) || all[at].done > i {
			w.Fatal(i, d, at)
		}
		all = slices.Delete(all, at, at+1)
	}
	for conn := range 8 {
		if got := w.s.Take(conn); got != out[conn] {
			w.Fatalf("%d: %q, not %q", conn, got, out[conn])
		}
	}
	if !slices.Equal(f.Dump(), w.s.Dump()) {
		w.Fatal(f.Dump(), w.s.Dump())
	}
}

// W8: requests cut at each place, and at two; all connections go on.
func TestCuts(t *testing.T) {
	text := signup("a") + "GET /x HTTP/1.1\r\n\r\n" + "POST /users HTTP/1.1\r\ntransfer-encoding: chunked\r\n\r\n11\r\nname=b&secret=s&x\r\n1\r\n=\r\n0\r\n\r\n" + signup("a") + "bad\r\n" + signup("c")
	want := made("a\n") + says(404, "", "") + made("b\n") + says(409, "text/plain", "110\n") + says(400, "", "", true)
	try := func(cuts ...int) {
		t.Helper()
		w := opened(t, 60)
		got, at := "", 0
		for i, cut := range append(cuts, len(text)) {
			if e := w.s.Feed(4, []byte(text[at:cut])); e != api.OK && e != api.ErrClosed {
				t.Fatal(int(e))
			}
			at = cut
			if i%2 == 0 {
				w.feed(5, signup("u")[:20])
			} else {
				w.feed(5, signup("u")[20:])
			}
			w.drain(1)
			got += w.s.Take(4)
		}
		if got != want {
			t.Fatalf("%v: %q", cuts, got)
		}
		if len(cuts)%2 == 1 && w.s.Take(5) == "" {
			t.Fatal("another connection stood still")
		}
	}
	try()
	for i := range len(text) {
		try(i)
		try(i/2, i)
	}
	var each []int
	for i := range len(text) {
		each = append(each, i)
	}
	try(each...)
}

// W8: bytes that are no requests change nothing, and all other connections go on.
func TestNoRequests(t *testing.T) {
	for seed := range int64(200) {
		r := rand.New(rand.NewSource(seed))
		w := newWorld(t, 60)
		before, ops, done := w.s.Dump(), w.d.Ops(), len(w.s.Done())
		for conn := range 7 {
			b := make([]byte, r.Intn(3000))
			r.Read(b)
			w.feed(conn, pick(r, "", "GET / HTTP/1.1\r\n", "POST /users HTTP/1.1\r\ncontent-length: 5\r\n\r\n\x00", "POST /users HTTP/1.1\r\ntransfer-encoding: chunked\r\n\r\n")+string(b))
			w.s.Pick(conn%4, 0)
		}
		w.drain(0)
		if !slices.Equal(w.s.Dump(), before) || w.d.Ops() != ops || len(w.s.Done()) != done {
			t.Fatal(seed, w.s.Dump())
		}
		w.want(plain(""), "ann", "GET", "/orgs/o/channels/main/log")
	}
}

// secretMaker makes patches all of whose paths lie below s, and others.
func secretMaker(k *maker, author string, isSecret bool) api.Patch {
	for {
		p := k.patch(author)
		if strings.HasPrefix(patch.Paths(p)[0], "s") == isSecret && p.Author == author {
			return p
		}
	}
}

// W2: what bob reads is the same, whether or not others apply patches of which he may read no path.
func TestNoninterference(t *testing.T) {
	reads, secrets := 0, 0
	for seed := range int64(10) {
		r := rand.New(rand.NewSource(seed))
		with, without := newWorld(t, 2000), newWorld(t, 2000)
		for _, w := range []*world{with, without} {
			w.want(made("1\n"), "ann", "POST", "/orgs/o/rules", "who", "*", "right", "read")
			w.want(made("2\n"), "ann", "POST", "/orgs/o/rules", "who", "*", "right", "write")
			w.want(made("3\n"), "ann", "POST", "/orgs/o/rules", "who", "u:bob", "right", "read", "prefix", "s", "deny", "1")
		}
		k := &maker{Rand: r}
		for range 40 {
			user := pick(r, "ann", "cy")
			isSecret := r.Intn(2) == 0
			code := codeOf(secretMaker(k, user, isSecret))
			out := with.do(user, "POST", "/orgs/o/channels/main/patches", "patch", code)
			if isSecret {
				secrets += strings.Count(out, "201 Created")
			} else if other := without.do(user, "POST", "/orgs/o/channels/main/patches", "patch", code); other != out {
				t.Fatal(out, other)
			}
			for _, target := range []string{"/log", "/files/a", "/files/a/b", "/files/b", "/files/s", "/files/s/x", "/files/none"} {
				a, b := with.do("bob", "GET", "/orgs/o/channels/main"+target), without.do("bob", "GET", "/orgs/o/channels/main"+target)
				if a != b {
					t.Fatalf("%s: %q, and %q without what bob may not read", target, a, b)
				}
				reads += strings.Count(a, "200 OK")
			}
		}
	}
	if reads < 500 || secrets < 50 {
		t.Error(reads, secrets)
	}
}

// W4: what is called in p changes nothing in o, and nothing that is replied there.
func TestTenants(t *testing.T) {
	left := 0
	for seed := range int64(20) {
		k := &maker{Rand: rand.New(rand.NewSource(seed))}
		with, without := newWorld(t, 2000), newWorld(t, 2000)
		for _, w := range []*world{with, without} {
			w.want(made("p\n"), "ann", "POST", "/orgs", "name", "p")
		}
		k.tokens = []string{with.tokens["ann"], with.tokens["bob"], with.tokens["cy"]}
		for i := range 120 {
			text := k.call()
			with.now, without.now = i/4, i/4
			out := with.send(i%8, text)
			if strings.Contains(text, " /orgs/p/") {
				left++
				continue
			}
			if other := without.send(i%8, text); other != out {
				t.Fatalf("%q: %q, and %q without p's calls", text, out, other)
			}
			if a, b := butP(with.s.Dump()), butP(without.s.Dump()); !slices.Equal(a, b) {
				t.Fatal(a, b)
			}
		}
	}
	if left < 200 {
		t.Error(left)
	}
}

func butP(dump []api.Pair) []api.Pair {
	return slices.DeleteFunc(dump, func(p api.Pair) bool { return strings.HasPrefix(p.Key, "org p ") })
}

// entriesOf tells the lines of o's audit log behind calls that were done.
func entriesOf(done []api.Done) string {
	seq, out := 0, ""
	for _, d := range done {
		c := d.Call
		if !changing(c.Kind) || d.Status > 201 || c.Org != "o" && (c.Kind != api.CallOrg || c.Form[0].Value != "o") {
			continue
		}
		seq++
		who := strings.Split(c.Token, ".")[1]
		out += strconv.Itoa(seq) + " " + strconv.Itoa(d.Tick) + " " + who + " " + strconv.Itoa(c.Kind) + " " + fields.Escape(c.Channel) + " " + fields.Escape(c.Arg) + " " + strconv.Itoa(c.Id) + "\n"
	}
	return out
}

// storedAlone leaves of what was done the calls that are stored.
func storedAlone(done []api.Done) []api.Done {
	return slices.DeleteFunc(done, func(d api.Done) bool { return !changing(d.Call.Kind) || d.Status > 201 })
}

// least tells the fewest sectors on which there is room for all that a world is told to do.
func least(t *testing.T) int {
	t.Helper()
	w := newWorld(t, 200)
	w.all(func() {})
	calls := storedAlone(w.s.Done())
	// A checkpoint writes all of them as one group, which has at most half of the ring.
	return 2 + 2*(sectorsOf(pairsOfAll(tickedOf(calls)))+2)
}

func tickedOf(done []api.Done) []ticked {
	var out []ticked
	for _, d := range done {
		out = append(out, ticked{d.Tick, d.Call})
	}
	return out
}

// W5, P27.6: power goes ahead of each operation of a long run, on a disk with much room, and on one whose log begins anew again and again. Opened again, the server has all that was replied, whole, and nothing that was not asked for; the audit log is just what changed.
func TestCrashes(t *testing.T) {
	for _, sectors := range []int{200, least(t)} {
		ends := map[int]int{}
		whole := newWorld(t, sectors)
		whole.all(func() {})
		all := whole.s.Done()
		anew := slices.ContainsFunc(whole.d.Sure(), func(b []byte) bool { return b[0] == 0x43 })
		if anew != (sectors < 200) {
			t.Error(sectors, anew)
		}
		start := newWorld(t, sectors)
		for n := 0; ; n++ {
			w := &world{t, start.d.Clone(), nil, start.now, start.tokens}
			w.open()
			w.d.Arm(n)
			done := w.run(all[len(start.s.Done()):])
			if !w.d.Down() {
				break
			}
			for _, keep := range subsets(len(w.d.Pending())) {
				w := &world{t, w.d.Clone(), nil, 0, w.tokens}
				w.crash(keep...)
				ends[w.holdCrash(storedAlone(slices.Clone(all)), len(storedAlone(start.s.Done()))+done)]++
			}
		}
		if ends[0] < 40 || ends[1] < 20 || len(ends) != 2 {
			t.Error(sectors, ends)
		}
	}
}

// holdCrash holds a server that was opened again to calls of which so many were done, and tells how many more are there.
func (w *world) holdCrash(calls []api.Done, done int) int {
	w.Helper()
	at := done
	if !slices.Equal(storedOf(w, w.d), keptOf(calls[:at])) {
		at++
	}
	f := forge.New([]byte("k"))
	for _, c := range calls[:at] {
		f.Do(c.Call, c.Tick)
	}
	if !slices.Equal(w.s.Dump(), f.Dump()) || !slices.Equal(storedOf(w, w.d), keptOf(calls[:at])) {
		w.Fatal(done, w.s.Dump())
	}
	if out := w.do("ann", "GET", "/orgs/o/audit"); !strings.HasSuffix(out, "\r\n\r\n"+entriesOf(calls[:at])+valueOf(f.Dump(), "org o head")+"\n") {
		w.Fatal(out, entriesOf(calls[:at]))
	}
	return at - done
}

func valueOf(dump []api.Pair, key string) string {
	for _, p := range dump {
		if p.Key == key {
			return p.Value
		}
	}
	return ""
}

// run sends calls on several connections, as far as there is power, and tells how many that are stored were done.
func (w *world) run(calls []api.Done) int {
	w.Helper()
	for i, d := range calls {
		q, e := route.Print(d.Call)
		text, f := request.Print(q)
		if e != api.OK || f != api.OK {
			w.Fatal(d)
		}
		w.feed(i%8, text)
		for range 3 {
			if !w.s.Pick(i%4, d.Tick) {
				return len(storedAlone(w.s.Done()))
			}
		}
		if w.s.Take(i%8) == "" {
			w.Fatal("no reply")
		}
	}
	return len(storedAlone(w.s.Done()))
}

// The document's examples of the whole.
func TestTenExamples(t *testing.T) {
	w := newWorld(t, 200)
	const channel = "/orgs/o/channels/main"
	file := func(reply, user string) { t.Helper(); w.want(reply, user, "GET", channel+"/files/a") }
	apply := func(reply string, p api.Patch) {
		t.Helper()
		w.want(reply, p.Author, "POST", channel+"/patches", "patch", codeOf(p))
	}
	w.want(made("1\n"), "ann", "POST", "/orgs/o/rules", "who", "u:bob", "right", "write")
	w.want(made("2\n"), "ann", "POST", "/orgs/o/rules", "who", "u:bob", "right", "read")
	first, second := one("ann", "a", "one"), one("bob", "a", "two")
	apply(made(hexOf(first)+"\n"), first)
	file(plain("conflicts 0\none\n"), "ann")
	apply(made(hexOf(second)+"\n"), second)
	if out := w.do("ann", "GET", channel+"/files/a"); !strings.Contains(out, "conflicts 1\n") || !strings.Contains(out, "\none\n") || !strings.Contains(out, "\ntwo\n") {
		t.Error(out)
	}
	w.want(plain(""), "ann", "DELETE", channel+"/patches/"+hexOf(first))
	file(plain("conflicts 0\ntwo\n"), "bob")
	third := patchBy("ann", "", add("a", api.Vertex{Patch: nameOf(second)}, bottom, "three"))
	apply(made(hexOf(third)+"\n"), third)
	w.want(says(409, "text/plain", "130\n"), "ann", "DELETE", channel+"/patches/"+hexOf(second))

	w.want(plain(""), "ann", "PUT", channel+"/policy", "approvals", "1")
	fourth := one("ann", "b", "four")
	apply(says(403, "", ""), fourth)
	w.want(made("1\n"), "ann", "POST", channel+"/proposals", "patch", codeOf(fourth))
	w.want(plain("0\n"), "ann", "POST", channel+"/queue/1")
	w.want(plain("1 2 130\n"), "ann", "POST", channel+"/merge")
	w.want(plain(""), "bob", "POST", "/orgs/o/proposals/1/votes", "vote", "yes")
	w.want(plain("0\n"), "ann", "POST", channel+"/queue/1")
	w.want(plain("1 1 0\n"), "ann", "POST", channel+"/merge")

	file(says(403, "", ""), "cy")
	w.want(plain(""), "cy", "GET", channel+"/log")
	turned := []byte(w.tokens["ann"])
	turned[len(turned)-1] ^= 1
	w.tokens["turned"] = string(turned)
	file(says(401, "text/plain", "160\n"), "turned")

	w.want(made("p\n"), "ann", "POST", "/orgs", "name", "p", "bytes", "100")
	w.want(made(""), "ann", "POST", "/orgs/p/channels", "name", "main")
	before := w.s.Dump()
	w.want(says(507, "text/plain", "180\n"), "ann", "POST", "/orgs/p/channels/main/patches", "patch", codeOf(one("ann", "a", times(100))))
	if !slices.Equal(w.s.Dump(), before) {
		t.Error("something has changed")
	}

	w.want(plain(""), "ann", "PUT", channel+"/policy", "approvals", "0")
	before = w.s.Dump()
	fifth := one("ann", "c", "five")
	w.feed(0, ask("POST", channel+"/patches", w.tokens["ann"], "patch", codeOf(fifth)))
	w.picks(0, 1)
	w.d.Arm(1)
	if w.s.Pick(0, 0) || w.s.Take(0) != "" {
		t.Error("a reply without power")
	}
	d := w.d.Clone()
	w.crash()
	if !slices.Equal(w.s.Dump(), before) {
		t.Error(w.s.Dump())
	}
	w.d = d
	w.crash(0)
	if n := len(w.d.Pending()); n != 0 {
		t.Error(n)
	}
	if out := w.send(0, "POST /users HTTP/1.1\r\ncontent-length: 8193\r\n\r\n"+times(8193)); out != says(413, "", "", true) || w.s.Feed(0, nil) != api.ErrClosed {
		t.Error(out)
	}
}
