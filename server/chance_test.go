package server_test

import (
	"math/rand"
	"strconv"
	"strings"
	"testing"

	"ingot/api"
	"ingot/disk"
	"ingot/server"
)

func pick[T any](r *rand.Rand, of ...T) T { return of[r.Intn(len(of))] }

// maker makes requests by chance.
type maker struct {
	*rand.Rand
	tokens  []string // of which the last ones are shown
	patches []api.Patch
}

// token picks a token of a user's, if there is one.
func (k *maker) token(user string) string {
	for i := len(k.tokens) - 1; i >= 0 && k.Intn(30) > 0; i-- {
		if strings.Contains(k.tokens[i], "."+user+".") {
			return k.tokens[i]
		}
	}
	return pick(k.Rand, "", "1.ann.5.00", "x")
}

// patch makes one, or takes one that was made.
func (k *maker) patch(author string) api.Patch {
	if n := len(k.patches); n > 0 && k.Intn(5) == 0 {
		return k.patches[k.Intn(n)]
	}
	path := pick(k.Rand, "a", "a/b", "b", "s", "s/x")
	op := add(path, top, bottom, pick(k.Rand, "x", "", times(k.Intn(150))))
	if n := len(k.patches); n > 0 && k.Intn(2) == 0 {
		below := k.patches[k.Intn(n)]
		op = add(below.Ops[0].Path, api.Vertex{Patch: nameOf(below)}, bottom, strconv.Itoa(k.Intn(9)))
	}
	p := patchBy(author, strconv.Itoa(k.Intn(99)), op)
	k.patches = append(k.patches, p)
	return p
}

// call makes a request that asks for something.
func (k *maker) call() string {
	r := k.Rand
	user := pick(r, "ann", "ann", "ann", "bob", "bob", "cy")
	org, channel := "/orgs/"+pick(r, "o", "o", "o", "o", "p"), "/channels/"+pick(r, "main", "main", "main", "side")
	id := strconv.Itoa(1 + r.Intn(3))
	by := k.token(user)
	switch r.Intn(26) {
	case 0:
		return ask("POST", "/users", "", "name", pick(r, "dee", "eve", "Eve", "u"+strconv.Itoa(r.Intn(99))), "secret", "s")
	case 1, 2:
		return ask("POST", "/tokens", "", "user", user, "secret", pick(r, "s-"+user, "s-"+user, "s"), "for", pick(r, "20", "50", "9", "0"), "x", times(pick(r, 0, 0, 0, 500, 2500)))
	case 3:
		if r.Intn(6) > 0 {
			break
		}
		return ask("DELETE", "/tokens/"+k.token(user), by)
	case 4:
		return ask("POST", "/orgs", by, "name", pick(r, "o", "p"), "rate", pick(r, "", "", "4"), "window", pick(r, "", "9"), "bytes", pick(r, "", "900"))
	case 5:
		return ask("PUT", org+"/members/"+pick(r, "bob", "cy", "none"), by, "role", pick(r, "member", "owner"))
	case 6:
		return ask("DELETE", org+"/members/"+pick(r, "bob", "cy"), by)
	case 7:
		return ask("POST", org+"/teams", by, "name", pick(r, "ops", "dev"))
	case 8:
		return ask("PUT", org+"/teams/ops", by, "user", "bob", "out", pick(r, "", "1"))
	case 9:
		return ask("POST", org+"/rules", by, "who", pick(r, "*", "u:bob", "t:ops"), "right", pick(r, "read", "write"), "prefix", pick(r, "", "a", "s"), "deny", pick(r, "", "", "", "1"))
	case 10:
		return ask("DELETE", org+"/rules/"+id, by)
	case 11:
		return ask("POST", org+"/channels", by, "name", pick(r, "main", "side"))
	case 12:
		return ask("POST", org+channel+"/fork", by, "to", pick(r, "side", "x"+id))
	case 13:
		return ask("PUT", org+channel+"/policy", by, "approvals", pick(r, "0", "0", "1"), "veto", pick(r, "0", "1"))
	case 14, 15, 16:
		return ask("POST", org+channel+"/patches", by, "patch", codeOf(k.patch(user)))
	case 17:
		return ask("DELETE", org+channel+"/patches/"+hexOf(pick(r, append(k.patches, k.patch(user))...)), by)
	case 18:
		return ask("GET", org+channel+pick(r, "/log", "/files/a", "/files/b", "/files/s"), by)
	case 19, 20:
		return ask("POST", org+channel+"/proposals", by, "patch", codeOf(k.patch(user)))
	case 21:
		return ask("POST", org+"/proposals/"+id+"/votes", by, "vote", pick(r, "yes", "yes", "no", "none"))
	case 22:
		return ask("POST", org+"/proposals/"+id+"/talk", by, "text", pick(r, "", "é\n", times(100)))
	case 23:
		return ask("GET", pick(r, org+"/proposals/"+id, org+"/audit"), by)
	case 24:
		return ask("POST", org+channel+"/queue/"+id, by)
	}
	return ask("POST", org+channel+"/merge", by)
}

// text makes a request, now and then one that asks for nothing, or is none.
func (k *maker) text() string {
	text := k.call()
	switch k.Intn(60) {
	case 0:
		return pick(k.Rand, "x\r\n", "GET / HTTP/2\r\n", "POST /users HTTP/1.1\r\ncontent-length: 9999\r\n\r\n", "GET /"+times(3000))
	case 1:
		return strings.Replace(text, "HTTP/1.1", "HTTP/1.0", 1)
	case 2:
		return strings.Replace(text, "\r\n", "\r\nconnection: close\r\n", 1)
	case 3, 4:
		return strings.Replace(text, " /", pick(k.Rand, " /x/", " //", " /orgs/O/"), 1)
	}
	return text
}

// twins are a server and its model, with what is still to be fed to each connection.
type twins struct {
	*maker
	*model
	s    *server.Server
	disk *disk.Disk
	left [8]string
	met  map[string]int
}

func newTwins(t *testing.T, seed int64, sectors int, met map[string]int) *twins {
	t.Helper()
	d, e := disk.New(sectors)
	if e != api.OK {
		t.Fatal(int(e))
	}
	w := &twins{maker: &maker{Rand: rand.New(rand.NewSource(seed))}, model: &model{t: t, d: d.Clone()}, disk: d, met: met}
	w.reopen()
	return w
}

func (w *twins) reopen() {
	w.t.Helper()
	s, e := server.Open(w.disk, []byte("k"))
	if e != api.OK {
		w.t.Fatal(int(e))
	}
	w.s, w.left = s, [8]string{}
	w.model.open()
	w.hold(w.s, w.disk)
}

// crash lets the power go, if it has not gone, and come back, with some of the pending writes.
func (w *twins) crash() {
	w.t.Helper()
	var keep []int
	for i := range w.disk.Pending() {
		if w.Intn(3) > 0 {
			keep = append(keep, i)
		}
	}
	before := len(w.stored)
	w.disk.Restart(keep)
	w.d.Restart(keep)
	under := len(w.under)
	w.reopen()
	w.met["crash"]++
	w.met["kept"] += len(w.stored) - before
	w.met["lost"] += under - (len(w.stored) - before)
}

// step does something by chance.
func (w *twins) step(now int) {
	w.t.Helper()
	switch n := w.Intn(100); {
	case n < 25:
		w.feedSome(w.Intn(8))
	case n < 85:
		worker := w.Intn(4)
		if n < 27 {
			worker = pick(w.Rand, -1, 4, 1<<40)
		}
		got, want := w.s.Pick(worker, now), w.model.pick(worker, now)
		if got != want {
			w.t.Fatal("pick", worker, got)
		}
	case n < 92:
		w.take(w.s, w.Intn(8))
	case n < 93:
		left := w.Intn(9)
		if w.disk.Arm(left) != w.d.Arm(left) {
			w.t.Fatal("arm")
		}
	default:
		if w.down || w.s.Feed(w.Intn(8), nil) != api.OK || w.Intn(20) == 0 {
			w.crash()
		}
	}
	w.hold(w.s, w.disk)
}

// feedSome feeds a piece of what is left for a connection.
func (w *twins) feedSome(conn int) {
	w.t.Helper()
	if w.left[conn] == "" {
		w.tokens = w.given
		w.left[conn] = w.text()
		if w.Intn(4) == 0 {
			w.left[conn] += w.text()
		}
	}
	size := len(w.left[conn])
	if w.Intn(2) == 0 {
		size = w.Intn(size + 1)
	}
	piece := w.left[conn][:size]
	w.left[conn] = w.left[conn][size:]
	got, want := w.s.Feed(conn, []byte(piece)), w.model.feed(conn, piece)
	if got != want {
		w.t.Fatal("feed", conn, int(got), int(want))
	}
	w.met["feed "+strconv.Itoa(int(got))]++
}

// both feeds a request to a server and its model, and lets one worker carry it out.
func (w *twins) both(text string) {
	w.t.Helper()
	if w.s.Feed(0, []byte(text)) != w.model.feed(0, text) {
		w.t.Fatal("feed")
	}
	for range 3 {
		if !w.s.Pick(0, 0) || !w.model.pick(0, 0) {
			w.t.Fatal("pick")
		}
	}
	w.tokens = w.given
	w.hold(w.s, w.disk)
}

// begin makes users, and an organisation in which all may do all.
func (w *twins) begin() {
	w.t.Helper()
	for _, user := range []string{"ann", "bob", "cy"} {
		w.both(signup(user))
		w.both(ask("POST", "/tokens", "", "user", user, "secret", "s-"+user, "for", "90"))
	}
	if len(w.tokens) < 3 {
		return // as the disk is full
	}
	ann := w.tokens[0]
	w.both(ask("POST", "/orgs", ann, "name", "o", "rate", pick(w.Rand, "", "", "6"), "window", "5", "bytes", pick(w.Rand, "", "600")))
	w.both(ask("POST", "/orgs/o/channels", ann, "name", "main"))
	w.both(ask("PUT", "/orgs/o/members/bob", ann, "role", "member"))
	w.both(ask("POST", "/orgs/o/rules", ann, "who", "*", "right", "write"))
	w.both(ask("POST", "/orgs/o/rules", ann, "who", "*", "right", "read"))
}

// P27.1 to P27.7: a server and its model, step by step by chance, with losses of power and disks that are full.
func TestByChance(t *testing.T) {
	met := map[string]int{}
	for seed := range int64(90) {
		w := newTwins(t, seed, []int{24, 40, 60, 200, 400, 400}[seed%6], met)
		w.begin()
		now := 0
		for range 700 {
			now += w.Intn(25) / 24
			before := len(w.done)
			w.step(now + pick(w.Rand, 0, 0, 0, -5))
			if n := len(w.done); n > before {
				met[strconv.Itoa(w.done[n-1].Status)]++
				met["kind "+strconv.Itoa(w.done[n-1].Call.Kind)+" "+strconv.Itoa(w.done[n-1].Status/100)]++
			}
		}
	}
	for kind := range 24 {
		if what := "kind " + strconv.Itoa(kind+1) + " 2"; met[what] < 5 {
			t.Error("too seldom", what, met[what])
		}
	}
	for _, what := range []string{"feed 0", "feed 50", "feed 201", "crash", "kept", "lost", "200", "201", "401", "403", "404", "409", "422", "429", "507"} {
		if met[what] < 5 {
			t.Error("too seldom", what, met[what])
		}
	}
}
