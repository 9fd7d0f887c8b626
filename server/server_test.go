package server_test

import (
	"bytes"
	"math"
	"slices"
	"strconv"
	"strings"
	"testing"

	"ingot/api"
	"ingot/disk"
	"ingot/server"
)

// The chapter's example.
func TestExample(t *testing.T) {
	d, _ := disk.New(60)
	s, e := server.Open(d, nil)
	if e != api.OK {
		t.Fatal(int(e))
	}
	s.Feed(0, []byte("POST /users HTTP/1.1\r\ncontent-length: 17\r\n\r\nname=ann&secret=s"))
	for range 3 {
		if !s.Pick(0, 0) {
			t.Error("no pick")
		}
	}
	if out := s.Take(0); out != "HTTP/1.1 201 Created\r\ncontent-type: text/plain\r\ncontent-length: 4\r\n\r\nann\n" {
		t.Error(out)
	}
	if l := s.Done(); len(l) != 1 || l[0].Conn != 0 || l[0].Status != 201 || l[0].Call.Kind != api.CallSignup {
		t.Error(l)
	}
}

// Rule 1: of a server that no call made.
func TestNoServer(t *testing.T) {
	for _, s := range []*server.Server{nil, {}} {
		for _, n := range []int{0, 1, 7, 8, -1, math.MinInt, math.MaxInt} {
			if e := s.Feed(n, []byte(signup("ann"))); e != api.ErrNil {
				t.Error(n, int(e))
			}
			if s.Pick(n, 5) || s.Phase(n) != 0 || s.Take(n) != "" {
				t.Error(n)
			}
		}
		if !s.Idle() || len(s.Done()) != 0 || len(s.Dump()) != 0 {
			t.Error(s.Done(), s.Dump())
		}
	}
}

// P27.2: errors in their order.
func TestFeedErrors(t *testing.T) {
	w := opened(t, 60)
	others := []int{-1, api.MaxConns, api.MaxConns + 1, math.MinInt, math.MaxInt, 1 << 32, -1 << 32}
	for _, conn := range others {
		if e := w.s.Feed(conn, []byte(signup("ann"))); e != api.ErrArg {
			t.Error(conn, int(e))
		}
	}
	if !w.s.Idle() {
		t.Error("something waits")
	}
	for conn := range api.MaxConns {
		w.feed(conn, "")
		w.feed(conn, signup("u"+strconv.Itoa(conn)))
	}
	for what, text := range map[int]string{0: "x\r\n", 1: "GET / HTTP/1.0\r\n\r\n", 2: "GET / HTTP/1.1\r\nconnection: close\r\n\r\n" + signup("x")} {
		w.feed(what, text)
		for _, b := range []string{"", "x", signup("y")} {
			if e := w.s.Feed(what, []byte(b)); e != api.ErrClosed {
				t.Error(what, int(e))
			}
		}
		w.feed(what+3, "G")
	}
	w.picks(0, 1)
	w.d.Arm(0)
	if w.s.Pick(0, 0) {
		t.Error("a pick without power")
	}
	for conn := range api.MaxConns {
		if e := w.s.Feed(conn, nil); e != api.ErrPower {
			t.Error(conn, int(e))
		}
	}
	for _, conn := range others {
		if e := w.s.Feed(conn, nil); e != api.ErrArg {
			t.Error(conn, int(e))
		}
	}
}

// P27.3, P27.4: workers and connections that are none.
func TestNoWorker(t *testing.T) {
	w := opened(t, 60)
	w.feed(0, signup("ann"))
	for _, n := range []int{-1, 4, 5, 1 << 32, -1 << 32, math.MinInt, math.MaxInt} {
		if w.s.Pick(n, 0) || w.s.Phase(n) != 0 {
			t.Error(n)
		}
	}
	w.picks(3, 3)
	for _, n := range []int{-1, 8, 9, 1 << 32, math.MinInt, math.MaxInt} {
		if w.s.Take(n) != "" {
			t.Error(n)
		}
	}
	if w.s.Take(0) != made("ann\n") {
		t.Error("no output")
	}
}

// P27.3, P27.4: a worker's phases, and what is told in each.
func TestPhases(t *testing.T) {
	w := opened(t, 60)
	text := signup("ann")
	w.feed(3, text[:len(text)-1])
	if !w.s.Idle() || w.s.Pick(0, 0) {
		t.Error("half a request is none")
	}
	w.feed(3, text[len(text)-1:])
	for worker := range api.MaxWorkers {
		if w.s.Phase(worker) != 0 {
			t.Error(worker)
		}
	}
	for i, want := range []struct {
		phase, done, users int
		out                string
	}{{1, 0, 0, ""}, {2, 1, 1, ""}, {0, 1, 1, made("ann\n")}} {
		if w.s.Idle() {
			t.Error(i, "is idle")
		}
		w.picks(1, 1)
		if w.s.Phase(1) != want.phase || w.s.Phase(0) != 0 || len(w.s.Done()) != want.done || len(w.s.Dump()) != want.users {
			t.Error(i, w.s.Phase(1), w.s.Done(), w.s.Dump())
		}
		if out := w.s.Take(3); out != want.out {
			t.Error(i, out)
		}
	}
	if !w.s.Idle() || w.s.Take(3) != "" || w.s.Pick(1, 0) {
		t.Error("not idle")
	}
}

// whose tells the connection whose event a worker has, by what is replied.
func (w *world) whose(worker int) int {
	w.Helper()
	w.picks(worker, 2)
	for conn := range api.MaxConns {
		if out := w.s.Take(conn); out != "" {
			return conn
		}
	}
	return -1
}

// P27.3: of the connections that have their turn, the one whose first event was told first.
func TestTurns(t *testing.T) {
	w := opened(t, 200)
	w.feed(5, signup("a")[:10])
	w.feed(2, signup("b")+signup("c"))
	w.feed(5, signup("a")[10:]) // whole behind b and c
	w.feed(0, signup("d"))
	w.feed(2, signup("e"))
	w.picks(0, 1) // b
	w.picks(1, 1) // a: it is not c's turn, as worker 0 has b
	w.picks(2, 1) // d: nor e's
	if w.s.Pick(3, 0) || w.s.Phase(3) != 0 {
		t.Error("a turn while the connection's event is with a worker")
	}
	w.picks(0, 1)
	if w.s.Pick(3, 0) {
		t.Error("a turn while the connection's reply is with a worker")
	}
	w.picks(0, 1)
	w.feed(1, signup("f"))
	w.picks(3, 1) // c: told ahead of f
	w.picks(0, 1) // f
	if got := w.whose(3); got != 2 {
		t.Error(got)
	}
	for worker, conn := range []int{1, 5, 0} {
		if got := w.whose(worker); got != conn {
			t.Error(worker, got)
		}
	}
	w.picks(0, 1) // e
	if w.whose(0) != 2 || !w.s.Idle() {
		t.Error("e")
	}
	var names []string
	for _, d := range w.s.Done() {
		names = append(names, d.Call.Form[0].Value)
	}
	if strings.Join(names, "") != "bcfade" {
		t.Error(names)
	}
}

// P27.3: the events of one Feed in order; each connection's in the order of its requests.
func TestOrderOfFeeds(t *testing.T) {
	w := opened(t, 400)
	for i := range 12 {
		w.feed(7-i%3, signup("x"+strconv.Itoa(2*i))+signup("x"+strconv.Itoa(2*i+1)))
	}
	w.picks(0, 3*24)
	var at, last []int
	for _, d := range w.s.Done() {
		n, _ := strconv.Atoi(d.Call.Form[0].Value[1:])
		at = append(at, n)
	}
	for n := range 24 {
		last = append(last, n)
	}
	if !slices.Equal(at, last) || !w.s.Idle() {
		t.Error(at)
	}
}

// P27.3: the tick of a call: at least 0 and the last one, at most MaxTime.
func TestTick(t *testing.T) {
	w := opened(t, 200)
	want := []int{0, 0, 5, 5, 5, 9, api.MaxTime, api.MaxTime, api.MaxTime}
	for i, now := range []int{math.MinInt, -1, 5, 4, -7, 9, api.MaxTime + 1, 3, math.MaxInt} {
		w.now = now
		w.send(i%8, signup("u"+strconv.Itoa(i)))
	}
	for i, d := range w.s.Done() {
		if d.Tick != want[i] {
			t.Error(i, d.Tick, want[i])
		}
	}
	for i, p := range storedOf(t, w.d) {
		if !strings.HasPrefix(p.Value, bytesOf(want[i], api.Call{})[:1]) {
			t.Error(p)
		}
	}
}

// P27.3: the tick is that of the pick by which the call is carried out; what is no call has none.
func TestTickOfCallsAlone(t *testing.T) {
	w := opened(t, 200)
	w.now = 100
	w.send(0, "GET /x HTTP/1.1\r\n\r\n")
	w.send(0, "POST /orgs/o/audit HTTP/1.1\r\n\r\n")
	w.send(0, "GET /orgs/O/audit HTTP/1.1\r\n\r\n")
	w.send(0, "x\r\n")
	if l := w.s.Done(); len(l) != 0 {
		t.Error(l)
	}
	w.feed(1, signup("a"))
	w.now = 50
	w.picks(0, 1)
	w.now = 7
	w.picks(0, 1)
	w.now = 60
	w.picks(0, 1)
	w.now = 3
	w.send(1, "GET /orgs/o/audit HTTP/1.1\r\n\r\n") // a call that fails has a tick
	w.now = 12
	w.send(1, "GET /orgs/o/audit HTTP/1.1\r\n\r\n")
	w.now = 8
	w.send(1, signup("b"))
	var ticks []int
	for _, d := range w.s.Done() {
		ticks = append(ticks, d.Tick)
	}
	if !slices.Equal(ticks, []int{7, 7, 12, 12}) {
		t.Error(ticks)
	}
	// Opened again, the tick is that of the last call that is stored.
	w.crash()
	w.now = 0
	w.send(1, signup("c"))
	if l := w.s.Done(); len(l) != 1 || l[0].Tick != 12 {
		t.Error(l)
	}
}

// P27.3: replies to events that are no calls; Close.
func TestReplies(t *testing.T) {
	big := "POST /users HTTP/1.1\r\ncontent-length: 8193\r\n\r\n"
	for i, c := range []struct {
		text, out string
		over      bool
	}{
		{"x\r\n", says(400, "", "", true), true},
		{"GET / HTTP/1.1\r\nx\r\n", says(400, "", "", true), true},
		{big + times(8193), says(413, "", "", true), true},
		{"GET /" + times(2100), says(431, "", "", true), true},
		{"GET / HTTP/1.1\r\n\r\n", says(404, "", ""), false},
		{"GET / HTTP/1.0\r\n\r\n", says(404, "", "", true), true},
		{"GET /users HTTP/1.1\r\n\r\n", says(405, "", ""), false},
		{"GET /users HTTP/1.1\r\nconnection: close\r\n\r\n", says(405, "", "", true), true},
		{"POST /users HTTP/1.1\r\ncontent-length: 1\r\n\r\na", says(400, "", ""), false},
		{"POST /users HTTP/1.1\r\nconnection:close\r\ncontent-length: 1\r\n\r\na", says(400, "", "", true), true},
		{signup("ann"), made("ann\n"), false},
		{strings.Replace(signup("ann"), "\r\n", "\r\nConnection: close\r\n", 1), says(201, "text/plain", "ann\n", true), true},
		{strings.Replace(signup("Ann"), "1.1", "1.0", 1), says(422, "text/plain", "150\n", true), true},
		{signup(""), says(422, "text/plain", "150\n"), false},
		{ask("POST", "/tokens", ""), says(401, "", ""), false},
		{ask("GET", "/orgs/o/audit", "t"), says(401, "text/plain", "160\n"), false},
		{"POST /users HTTP/1.1\r\ntransfer-encoding: chunked\r\n\r\n9\r\nname=cy&s\r\n7\r\necret=s\r\n0\r\n\r\n", made("cy\n"), false},
	} {
		w := opened(t, 60)
		if out := w.send(6, c.text); out != c.out {
			t.Errorf("%d: %q, not %q", i, out, c.out)
		}
		want := api.OK
		if c.over {
			want = api.ErrClosed
		}
		if e := w.s.Feed(6, []byte("G")); e != want {
			t.Error(i, int(e))
		}
		if out := w.send(5, signup("bob")); out != made("bob\n") {
			t.Error(i, "stopped another connection", out)
		}
	}
}

// P27.3: a reply that can't be printed is one of the status 500, with the same Close.
func TestReplyTooLong(t *testing.T) {
	w := newWorld(t, 4096)
	w.want(made("p\n"), "ann", "POST", "/orgs", "name", "p", "bytes", "999999999", "rate", "999999")
	w.want(made(""), "ann", "POST", "/orgs/p/channels", "name", "main")
	text := func(extra string) string {
		return strings.Replace(ask("GET", "/orgs/p/channels/main/files/a", w.tokens["ann"]), "\r\n", "\r\n"+extra, 1)
	}
	room := api.MaxScript - len("conflicts 0\n")
	up := top
	var body strings.Builder
	for i := 0; room > 0; i++ { // lines one behind the other, as many as make a body of just MaxScript bytes
		n := min(room, 10*201)
		room -= n
		var lines []string
		for n > 0 {
			size := min(n, 201)
			if n-size == 1 {
				size--
			}
			lines = append(lines, times(size-1))
			body.WriteString(times(size-1) + "\n")
			n -= size
		}
		p := patchBy("ann", strconv.Itoa(i), add("a", up, bottom, lines...))
		w.want(made(hexOf(p)+"\n"), "ann", "POST", "/orgs/p/channels/main/patches", "patch", codeOf(p))
		up = api.Vertex{Patch: nameOf(p), Line: len(lines) - 1}
	}
	whole := "conflicts 0\n" + body.String()
	if out := w.send(1, text("")); len(whole) != api.MaxScript || out != plain(whole) {
		t.Error(len(whole), len(out))
	}
	last := patchBy("ann", "last", add("a", up, bottom, ""))
	w.want(made(hexOf(last)+"\n"), "ann", "POST", "/orgs/p/channels/main/patches", "patch", codeOf(last))
	if out := w.send(1, text("")); out != says(500, "", "") {
		t.Error(len(out))
	}
	if l := w.s.Done(); l[len(l)-1].Status != 200 {
		t.Error("done", l[len(l)-1].Status)
	}
	if out := w.send(1, text("connection: close\r\n")); out != says(500, "", "", true) {
		t.Error(len(out))
	}
}

// P27.4: outputs stand one behind the other until they are taken.
func TestTake(t *testing.T) {
	w := opened(t, 100)
	w.feed(0, signup("a")+signup("a")+"GET /x HTTP/1.1\r\n\r\nx\r\n")
	w.feed(1, signup("b"))
	w.picks(0, 6)
	if out := w.s.Take(0); out != made("a\n")+says(409, "text/plain", "110\n") {
		t.Error(out)
	}
	w.picks(0, 9)
	if out := w.s.Take(0); out != says(404, "", "")+says(400, "", "", true) {
		t.Error(out)
	}
	if w.s.Take(0) != "" || w.s.Take(1) != made("b\n") || w.s.Take(1) != "" {
		t.Error("taken twice")
	}
}

// Rule 4: what is handed in is neither changed nor kept; what is handed out is new memory.
func TestMemory(t *testing.T) {
	secret := []byte("k secret spare")[:8]
	d, _ := disk.New(60)
	s, _ := server.Open(d, secret[:1])
	if string(secret[:14]) != "k secret spare" {
		t.Error(string(secret[:14]))
	}
	secret[0] = 'x'
	w := &world{t, d, s, 0, map[string]string{}}
	text := []byte(signup("ann") + "spare")
	w.s.Feed(0, text[:10])
	w.s.Feed(0, text[10:len(text)-5])
	if string(text) != signup("ann")+"spare" {
		t.Error(string(text))
	}
	for i := range text {
		text[i] = 'x'
	}
	w.picks(0, 3)
	if out := w.s.Take(0); out != made("ann\n") {
		t.Error(out)
	}
	w.tokens["ann"] = w.token("ann", 50)
	w.want(made("o\n"), "ann", "POST", "/orgs", "name", "o")
	if l := w.s.Done(); len(l) != 3 || cap(l[0].Call.Form) > 2 && l[0].Call.Form[:3][2] != (api.Pair{}) {
		t.Error(l)
	}
	before := w.s.Done()
	for _, l := range [][]api.Done{w.s.Done(), w.s.Done()} {
		for i := range l {
			for j := range l[i].Call.Form {
				l[i].Call.Form[j] = api.Pair{Key: "x"}
			}
			l[i] = api.Done{}
		}
	}
	dump := w.s.Dump()
	for i := range dump {
		dump[i] = api.Pair{}
	}
	for i := range before { // in memory of its own, too
		before[i].Call.Form = form([][]string{{"name", "ann", "secret", "s-ann"}, {"user", "ann", "secret", "s-ann", "for", "50"}, {"name", "o"}}[i]...)
	}
	if !sameDone(w.s.Done(), before) || w.s.Dump()[0] == dump[0] {
		t.Error(w.s.Done(), w.s.Dump())
	}
	// The secret is that which Open was given, behind a full disk, too.
	full := says(507, "text/plain", "60\n")
	for i := 0; w.send(3, ask("POST", "/tokens", "", "user", "ann", "secret", "s-ann", "for", "9", "x", times(1000))) != full; i++ {
		if i > 60 {
			t.Fatal("never full")
		}
	}
	w.want(says(404, "text/plain", "111\n"), "ann", "GET", "/orgs/o/channels/main/log")
}

// What Feed is given is not read behind its length.
func TestSpareRoom(t *testing.T) {
	w := opened(t, 60)
	b := bytes.Repeat([]byte(signup("a")), 2)
	w.s.Feed(0, b[:len(b)/2])
	w.picks(0, 3)
	if !w.s.Idle() || w.s.Take(0) != made("a\n") {
		t.Error("more than was fed")
	}
}
