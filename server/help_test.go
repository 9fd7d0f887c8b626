package server_test

import (
	"bytes"
	"encoding/binary"
	"fmt"
	"slices"
	"strconv"
	"strings"
	"testing"

	"ingot/api"
	"ingot/disk"
	"ingot/fields"
	"ingot/hash"
	"ingot/patch"
	"ingot/reply"
	"ingot/server"
	"ingot/store"
)

var (
	top    = api.Vertex{}
	bottom = api.Vertex{Line: 1}
)

func times(n int) string { return strings.Repeat("a", n) }

func add(path string, up, down api.Vertex, lines ...string) api.Op {
	return api.Op{Kind: api.OpAdd, Path: path, Up: up, Down: down, Lines: lines}
}

// patchBy makes a patch that needs those whose lines it names.
func patchBy(author, note string, ops ...api.Op) api.Patch {
	p := api.Patch{Author: author, Note: note, Ops: ops}
	for _, op := range ops {
		for _, v := range []api.Vertex{op.Up, op.Down} {
			if v.Patch != (api.Hash{}) && !slices.Contains(p.Deps, v.Patch) {
				p.Deps = append(p.Deps, v.Patch)
			}
		}
	}
	slices.SortFunc(p.Deps, func(a, b api.Hash) int { return bytes.Compare(a[:], b[:]) })
	return p
}

// one makes a patch that adds a line to a path between Top and Bottom.
func one(author, path, line string) api.Patch {
	return patchBy(author, "", add(path, top, bottom, line))
}

func codeOf(p api.Patch) string {
	b, e := patch.Encode(p)
	if e != api.OK {
		panic(e)
	}
	return hash.Hex(b)
}

func nameOf(p api.Patch) api.Hash {
	h, e := patch.Name(p)
	if e != api.OK {
		panic(e)
	}
	return h
}

func hexOf(p api.Patch) string {
	h := nameOf(p)
	return hash.Hex(h[:])
}

func form(l ...string) []api.Pair {
	var out []api.Pair
	for i := 0; i < len(l); i += 2 {
		out = append(out, api.Pair{Key: l[i], Value: l[i+1]})
	}
	return out
}

// ask makes the text of a request.
func ask(method, target, token string, l ...string) string {
	body, err := fields.Print(form(l...))
	if err != nil {
		panic(err)
	}
	text := method + " " + target + " HTTP/1.1\r\n"
	if token != "" {
		text += "authorization: Bearer " + token + "\r\n"
	}
	if body != "" {
		text += "content-length: " + strconv.Itoa(len(body)) + "\r\n"
	}
	return text + "\r\n" + body
}

// signup asks for a user to begin.
func signup(name string) string {
	return ask("POST", "/users", "", "name", name, "secret", "s-"+name)
}

// says makes the text of a reply.
func says(status int, kind, body string, close ...bool) string {
	text, e := reply.Print(api.Reply{Status: status, Type: kind, Body: body, Close: len(close) > 0})
	if e != api.OK {
		panic(e)
	}
	return text
}

func made(body string) string { return says(201, "text/plain", body) }

func plain(body string) string { return says(200, "text/plain", body) }

// world is a server, its disk, the tick of its calls, and the tokens of those who call.
type world struct {
	testing.TB
	d      *disk.Disk
	s      *server.Server
	now    int
	tokens map[string]string
}

// opened is a world with nothing in it.
func opened(t testing.TB, sectors int) *world {
	t.Helper()
	d, e := disk.New(sectors)
	if e != api.OK {
		t.Fatal(int(e))
	}
	w := &world{t, d, nil, 0, map[string]string{}}
	w.open()
	return w
}

func (w *world) open() {
	w.Helper()
	s, e := server.Open(w.d, []byte("k"))
	if e != api.OK {
		w.Fatal(int(e))
	}
	w.s = s
}

// newWorld has the users ann, bob and cy, whose tokens hold up to the tick 1000000; ann's organisation o, of which bob is a member, with the channel main.
func newWorld(t testing.TB, sectors int) *world {
	t.Helper()
	w := opened(t, sectors)
	for _, user := range []string{"ann", "bob", "cy"} {
		w.enter(user)
	}
	w.want(made("o\n"), "ann", "POST", "/orgs", "name", "o", "rate", "999999")
	w.want(made(""), "ann", "POST", "/orgs/o/channels", "name", "main")
	w.want(plain(""), "ann", "PUT", "/orgs/o/members/bob", "role", "member")
	return w
}

// enter signs a user up, and keeps a token of theirs.
func (w *world) enter(user string) {
	w.Helper()
	if got := w.send(7, signup(user)); got != made(user+"\n") {
		w.Fatal(got)
	}
	w.tokens[user] = w.token(user, 1000000-w.now)
}

func (w *world) token(user string, length int) string {
	w.Helper()
	r, _, e := reply.Read(w.send(7, ask("POST", "/tokens", "", "user", user, "secret", "s-"+user, "for", strconv.Itoa(length))))
	if e != api.OK || r.Status != 201 {
		w.Fatal(r)
	}
	return strings.TrimSuffix(r.Body, "\n")
}

// picks lets a worker go on so many times, each of which must be true.
func (w *world) picks(worker, times int) {
	w.Helper()
	for i := range times {
		if !w.s.Pick(worker, w.now) {
			w.Fatal("pick", worker, i)
		}
	}
}

// drain lets all workers go on by turns, until nothing waits.
func (w *world) drain(now int) {
	w.Helper()
	for i := 0; !w.s.Idle(); i++ {
		w.s.Pick(i%api.MaxWorkers, now)
		if i > 100000 {
			w.Fatal("no end")
		}
	}
}

func (w *world) feed(conn int, text string) {
	w.Helper()
	if e := w.s.Feed(conn, []byte(text)); e != api.OK {
		w.Fatal(int(e))
	}
}

// send feeds a request, lets a worker carry it out, and takes what is replied.
func (w *world) send(conn int, text string) string {
	w.Helper()
	w.feed(conn, text)
	w.picks(2, 3)
	return w.s.Take(conn)
}

// do sends a request of a user.
func (w *world) do(user, method, target string, l ...string) string {
	w.Helper()
	return w.send(7, ask(method, target, w.tokens[user], l...))
}

func (w *world) want(reply, user, method, target string, l ...string) {
	w.Helper()
	if got := w.do(user, method, target, l...); got != reply {
		w.Fatalf("%s: %s %s %q: %q, not %q", user, method, target, l, got, reply)
	}
}

// crash lets the power go and come back; of the pending writes some are kept.
func (w *world) crash(keep ...int) {
	w.Helper()
	if e := w.d.Restart(keep); e != api.OK {
		w.Fatal(int(e))
	}
	w.open()
}

// storedOf tells what a disk's store has; the disk stays as it is.
func storedOf(t testing.TB, d *disk.Disk) []api.Pair {
	t.Helper()
	st, e := store.Open(d.Clone())
	if e != api.OK {
		t.Fatal(int(e))
	}
	return st.All()
}

// bytesOf tells a call's bytes by the words of the chapter.
func bytesOf(tick int, c api.Call) string {
	number := func(n int) string { return string(binary.AppendUvarint(nil, uint64(n))) }
	text := func(s string) string { return number(len(s)) + s }
	out := number(tick) + number(c.Kind) + number(c.Id) + text(c.Token) + text(c.Org) + text(c.Channel) + text(c.Arg) + number(len(c.Form))
	for _, p := range c.Form {
		out += text(p.Key) + text(p.Value)
	}
	return out
}

// pairsOf tells the keys and values under which a call's bytes are stored.
func pairsOf(number int, bytes string) []api.Pair {
	var out []api.Pair
	for at := 0; at < len(bytes); at += api.MaxValue {
		out = append(out, api.Pair{
			Key:   fmt.Sprintf("e/%08d/%d", number, at/api.MaxValue),
			Value: bytes[at:min(at+api.MaxValue, len(bytes))],
		})
	}
	return out
}

// changing tells whether a kind changes something.
func changing(kind int) bool {
	return kind >= 1 && kind <= 24 && !slices.Contains([]int{api.CallText, api.CallLog, api.CallProposal, api.CallAudit}, kind)
}

// diskWith makes a disk whose store has just these pairs.
func diskWith(t testing.TB, sectors int, pairs ...api.Pair) *disk.Disk {
	t.Helper()
	d, _ := disk.New(sectors)
	st, e := store.Open(d)
	if e != api.OK {
		t.Fatal(int(e))
	}
	for _, p := range pairs {
		tx := st.Begin()
		if e := tx.Put(p.Key, p.Value); e != api.OK {
			t.Fatal(p.Key, int(e))
		}
		if e := tx.Commit(); e != api.OK {
			t.Fatal(int(e))
		}
	}
	return d
}

func sameDone(a, b []api.Done) bool {
	return slices.EqualFunc(a, b, func(a, b api.Done) bool {
		return a.Conn == b.Conn && a.Tick == b.Tick && a.Status == b.Status && sameCall(a.Call, b.Call)
	})
}

func sameCall(a, b api.Call) bool {
	return a.Kind == b.Kind && a.Token == b.Token && a.Org == b.Org && a.Channel == b.Channel && a.Arg == b.Arg && a.Id == b.Id && slices.Equal(a.Form, b.Form)
}
