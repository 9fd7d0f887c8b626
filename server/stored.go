package server

import (
	"strconv"
	"strings"

	"ingot/api"
	"ingot/forge"
	"ingot/store"
)

const numberDigits = 8 // of a call's number in its keys

// keyOf tells the key of a piece of a call's bytes.
func keyOf(call, piece int) string {
	digits := strconv.Itoa(call)
	ahead := strings.Repeat("0", max(numberDigits-len(digits), 0))
	return "e/" + ahead + digits + "/" + strconv.Itoa(piece)
}

// changes tells whether calls of a kind change something.
func changes(kind int) bool {
	switch kind {
	case api.CallText, api.CallLog, api.CallProposal, api.CallAudit:
		return false
	}
	return kind >= api.CallSignup && kind <= api.CallAudit
}

func isAnswer(r api.Reply) bool { return r.Status == 200 || r.Status == 201 }

// state is a forge on which stored calls were done.
type state struct {
	forge *forge.Forge
	calls int // how many
	tick  int // the last one's
}

func begin(secret []byte) *state { return &state{forge: forge.New(secret)} }

// replay does all calls of a store, and tells whether it has calls alone, each of which answers.
func (at *state) replay(from *store.Store) bool {
	keys := 0
	for {
		bytes, pieces, is := piecesOf(from, at.calls+1)
		if !is {
			return false
		}
		if pieces == 0 {
			return keys == from.Len()
		}
		if !at.do(bytes) {
			return false
		}
		keys += pieces
	}
}

// piecesOf tells the bytes of a call of a store, and of how many pieces they are: of none, if there is no such call. It tells whether all pieces but the last one are whole.
func piecesOf(from *store.Store, call int) (bytes string, pieces int, is bool) {
	var b []byte
	for {
		piece, there := from.Get(keyOf(call, pieces))
		if !there {
			return string(b), pieces, true
		}
		if piece == "" || len(b) != pieces*api.MaxValue {
			return "", 0, false
		}
		b = append(b, piece...)
		pieces++
	}
}

// do does a stored call, if it is one that changes, and tells whether it answers.
func (at *state) do(bytes string) bool {
	c, tick, is := callOf(bytes)
	if !is || tick < at.tick || !changes(c.Kind) || !isAnswer(at.forge.Do(c, tick)) {
		return false
	}
	at.calls++
	at.tick = tick
	return true
}

// keep stores a call under the next number.
func (s *Server) keep(c api.Call, tick int) api.Errno {
	t := s.store.Begin()
	bytes := bytesOf(c, tick)
	for piece := 0; len(bytes) > 0; piece++ {
		size := min(len(bytes), api.MaxValue)
		if e := t.Put(keyOf(s.stored+1, piece), bytes[:size]); e != api.OK {
			return e
		}
		bytes = bytes[size:]
	}
	return t.Commit()
}

// beginAnew lets the forge go for one that has what is stored, and nothing else.
func (s *Server) beginAnew() {
	at := begin(s.secret)
	at.replay(s.store)
	s.forge = at.forge
}
