package server

import (
	"strconv"

	"ingot/api"
	"ingot/forge"
	"ingot/reply"
	"ingot/route"
)

// A phase says what a worker has.
type phase int

const (
	withNothing phase = iota
	withEvent
	withReply
	phases // how many there are
)

const statusFault = 500

// worker is what one has of a connection.
type worker struct {
	phase phase
	conn  int
	event api.Event
	reply api.Reply
}

func (w worker) isBusy() bool { return w.phase != withNothing }

// deeds tells by its phase how a worker goes on, and whether it did.
func deeds() [phases]func(s *Server, w *worker, now int) bool {
	return [phases]func(s *Server, w *worker, now int) bool{
		withNothing: (*Server).takeEvent,
		withEvent:   (*Server).carryOut,
		withReply:   (*Server).send,
	}
}

// takeEvent gives a worker the event that was told first, of the connections that have their turn.
func (s *Server) takeEvent(w *worker, _ int) bool {
	conn := -1
	for i := range s.conns {
		if s.hasTurn(i) && (conn < 0 || s.firstOf(i) < s.firstOf(conn)) {
			conn = i
		}
	}
	if conn < 0 {
		return false
	}
	*w = worker{phase: withEvent, conn: conn, event: s.conns[conn].takeFirst()}
	return true
}

func (s *Server) firstOf(conn int) int { return s.conns[conn].waits[0].number }

func (s *Server) hasTurn(conn int) bool {
	for _, w := range s.workers {
		if w.isBusy() && w.conn == conn {
			return false
		}
	}
	return s.conns[conn].hasEvent()
}

// carryOut finds the reply to a worker's event; there is none, if the power goes.
func (s *Server) carryOut(w *worker, now int) bool {
	r, is := s.replyTo(w, now)
	if is {
		*w = worker{phase: withReply, conn: w.conn, reply: r}
	}
	return is
}

func (s *Server) replyTo(w *worker, now int) (r api.Reply, is bool) {
	if w.event.Bad != 0 {
		return api.Reply{Status: w.event.Bad, Close: true}, true
	}
	c, status := route.Read(w.event.Request)
	if status != 0 {
		r, is = api.Reply{Status: status}, true
	} else {
		r, is = s.do(w.conn, c, now)
	}
	r.Close = !w.event.Request.Keep
	return r, is
}

// do carries a call out. What it changed is undone, if it can't be stored.
func (s *Server) do(conn int, c api.Call, now int) (api.Reply, bool) {
	tick := min(max(now, s.tick), api.MaxTime)
	r := s.forge.Do(c, tick)
	if changes(c.Kind) && isAnswer(r) {
		switch s.keep(c, tick) {
		case api.OK:
			s.stored++
		case api.ErrFull:
			s.beginAnew()
			r = noRoom()
		default:
			s.beginAnew()
			s.down = true
			return api.Reply{}, false
		}
	}
	s.tick = tick
	s.done = append(s.done, api.Done{Conn: conn, Tick: tick, Call: c, Status: r.Status})
	return r, true
}

func noRoom() api.Reply {
	return api.Reply{Status: forge.Status(api.ErrFull), Type: "text/plain", Body: strconv.Itoa(int(api.ErrFull)) + "\n"}
}

// send puts a worker's reply behind its connection's output.
func (s *Server) send(w *worker, _ int) bool {
	text, e := reply.Print(w.reply)
	if e != api.OK {
		text, _ = reply.Print(api.Reply{Status: statusFault, Close: w.reply.Close})
	}
	c := &s.conns[w.conn]
	c.out = append(c.out, text...)
	*w = worker{}
	return true
}
