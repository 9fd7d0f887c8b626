package server_test

import (
	"slices"
	"strings"
	"testing"

	"ingot/api"
	"ingot/disk"
	"ingot/forge"
	"ingot/reply"
	"ingot/request"
	"ingot/route"
	"ingot/server"
	"ingot/store"
)

// model is a server by the words of the chapter, in plain lists, over a disk that is a twin of the server's.
type model struct {
	t       *testing.T
	d       *disk.Disk
	st      *store.Store
	forge   *forge.Forge
	stored  []ticked // all calls that are stored
	under   []ticked // the one that was under way when the power went
	given   []string // the tokens that were given out
	tick    int
	down    bool
	readers []*request.Reader
	waits   []of[api.Event] // of all connections, in the order in which they were told
	events  map[int]of[api.Event]
	replies map[int]of[api.Reply]
	out     [8]string
	done    []api.Done
}

type ticked struct {
	tick int
	call api.Call
}

// of is something of a connection.
type of[T any] struct {
	conn int
	what T
}

// open opens the twin. What is stored must be all that was, or that and what was under way.
func (m *model) open() {
	m.t.Helper()
	st, e := store.Open(m.d)
	if e != api.OK {
		m.t.Fatal(int(e))
	}
	stored := m.stored
	if all := append(slices.Clone(m.stored), m.under...); slices.Equal(st.All(), pairsOfAll(all)) {
		stored = all
	}
	if !slices.Equal(st.All(), pairsOfAll(stored)) {
		m.t.Fatal("neither with nor without what was under way", st.All())
	}
	*m = model{t: m.t, d: m.d, st: st, stored: stored, events: map[int]of[api.Event]{}, replies: map[int]of[api.Reply]{}}
	for range 8 {
		m.readers = append(m.readers, request.New())
	}
	m.begin()
	if len(stored) > 0 {
		m.tick = stored[len(stored)-1].tick
	}
}

func pairsOfAll(calls []ticked) []api.Pair {
	var out []api.Pair
	for i, c := range calls {
		out = append(out, pairsOf(i+1, bytesOf(c.tick, c.call))...)
	}
	return out
}

// begin makes the forge of what is stored.
func (m *model) begin() {
	m.t.Helper()
	m.forge, m.given = forge.New([]byte("k")), nil
	for _, c := range m.stored {
		r := m.forge.Do(c.call, c.tick)
		if r.Status != 200 && r.Status != 201 {
			m.t.Fatal(c, r)
		}
		m.give(c.call, r)
	}
}

func (m *model) give(c api.Call, r api.Reply) {
	if c.Kind == api.CallToken {
		m.given = append(m.given, strings.TrimSuffix(r.Body, "\n"))
	}
}

func (m *model) feed(conn int, b string) api.Errno {
	switch {
	case conn < 0 || conn > 7:
		return api.ErrArg
	case m.down:
		return api.ErrPower
	case m.readers[conn].Over():
		return api.ErrClosed
	}
	for _, e := range m.readers[conn].Feed([]byte(b)) {
		m.waits = append(m.waits, of[api.Event]{conn, e})
	}
	return api.OK
}

func (m *model) isFree(conn int) bool {
	for worker := range 4 {
		if e, has := m.events[worker]; has && e.conn == conn {
			return false
		}
		if r, has := m.replies[worker]; has && r.conn == conn {
			return false
		}
	}
	return true
}

func (m *model) pick(worker, now int) bool {
	if worker < 0 || worker > 3 || m.down {
		return false
	}
	if r, has := m.replies[worker]; has {
		delete(m.replies, worker)
		text, e := reply.Print(r.what)
		if e != api.OK {
			text, _ = reply.Print(api.Reply{Status: 500, Close: r.what.Close})
		}
		m.out[r.conn] += text
		return true
	}
	if e, has := m.events[worker]; has {
		r, is := m.replyTo(e.conn, e.what, now)
		if is {
			delete(m.events, worker)
			m.replies[worker] = of[api.Reply]{e.conn, r}
		}
		return is
	}
	for i, e := range m.waits {
		if m.isFree(e.conn) { // all that waits ahead of it is of connections that are not
			m.events[worker] = e
			m.waits = slices.Delete(m.waits, i, i+1)
			return true
		}
	}
	return false
}

func (m *model) replyTo(conn int, e api.Event, now int) (api.Reply, bool) {
	if e.Bad != 0 {
		return api.Reply{Status: e.Bad, Close: true}, true
	}
	c, status := route.Read(e.Request)
	if status != 0 {
		return api.Reply{Status: status, Close: !e.Request.Keep}, true
	}
	tick := max(now, m.tick, 0)
	if tick > api.MaxTime {
		tick = api.MaxTime
	}
	r := m.forge.Do(c, tick)
	if changing(c.Kind) && (r.Status == 200 || r.Status == 201) {
		switch e := m.store(c, tick); e {
		case api.ErrPower:
			m.down, m.under = true, []ticked{{tick, c}}
			m.begin()
			return api.Reply{}, false
		case api.ErrFull:
			m.begin()
			r = api.Reply{Status: 507, Type: "text/plain", Body: "60\n"}
		default:
			m.stored = append(m.stored, ticked{tick, c})
			m.give(c, r)
		}
	}
	m.tick = tick
	m.done = append(m.done, api.Done{Conn: conn, Tick: tick, Call: c, Status: r.Status})
	r.Close = !e.Request.Keep
	return r, true
}

func (m *model) store(c api.Call, tick int) api.Errno {
	tx := m.st.Begin()
	for _, p := range pairsOf(len(m.stored)+1, bytesOf(tick, c)) {
		tx.Put(p.Key, p.Value)
	}
	return tx.Commit()
}

func (m *model) phase(worker int) int {
	if _, has := m.events[worker]; has {
		return 1
	}
	if _, has := m.replies[worker]; has {
		return 2
	}
	return 0
}

// hold holds all that a server tells to the model, but for its outputs.
func (m *model) hold(s *server.Server, d *disk.Disk) {
	m.t.Helper()
	for worker := -1; worker < 6; worker++ {
		if s.Phase(worker) != m.phase(worker) {
			m.t.Fatal("phase", worker, s.Phase(worker), m.phase(worker))
		}
	}
	if s.Idle() != (len(m.waits)+len(m.events)+len(m.replies) == 0) {
		m.t.Fatal("idle", s.Idle())
	}
	if got := s.Done(); !sameDone(got, m.done) {
		m.t.Fatal("done", got, m.done)
	}
	if got, want := s.Dump(), m.forge.Dump(); !slices.Equal(got, want) {
		m.t.Fatal("dump", got, want)
	}
	if !sameDisk(d, m.d) {
		m.t.Fatal("another disk")
	}
}

// take holds the output of a connection to the model's.
func (m *model) take(s *server.Server, conn int) {
	m.t.Helper()
	if got := s.Take(conn); got != m.out[conn] {
		m.t.Fatalf("%q, not %q", got, m.out[conn])
	}
	m.out[conn] = ""
}
