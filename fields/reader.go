package fields

import (
	"errors"
	"strings"

	"ingot/api"
)

// reader reads a text from the left. Where that is wrong it gives up by a panic with an unread.
type reader struct {
	text string
	at   int
}

// unread is an error that says that reading gave up; the fault is in it.
type unread struct{ fault api.Fault }

func (u unread) Error() string { return "reading gave up " + u.fault.Error() }

func (u unread) Unwrap() error { return u.fault }

func (r *reader) giveUp(e api.Errno) { panic(unread{api.Fault{At: r.at, Err: e}}) }

// faultOf tells the fault out of what a reader panicked with; nil, if it did not.
func faultOf(caught any) error {
	if err, is := caught.(error); is {
		var fault api.Fault
		if errors.As(err, &fault) {
			return fault
		}
	}
	return nil
}

func (r *reader) isAtEnd() bool { return r.at >= len(r.text) }

// isAtOne tells whether one of some bytes comes next.
func (r *reader) isAtOne(of string) bool {
	return !r.isAtEnd() && strings.IndexByte(of, r.text[r.at]) >= 0
}

// form reads pieces with & between them; behind a & at the end there is an empty piece.
func (r *reader) form() []api.Pair {
	if r.isAtEnd() {
		return nil
	}
	pairs := []api.Pair{r.pair()}
	for r.isAtOne("&") {
		r.at++
		if len(pairs) >= api.MaxPairs {
			r.giveUp(api.ErrLong)
		}
		pairs = append(pairs, r.pair())
	}
	return pairs
}

func (r *reader) pair() api.Pair {
	key := r.escapeUpTo("=&")
	if !r.isAtOne("=") {
		r.giveUp(api.ErrByte)
	}
	r.at++
	return api.Pair{Key: key, Value: r.escapeUpTo("&")}
}

// escapeUpTo reads what is escaped ahead of the first of some bytes, or of the end.
func (r *reader) escapeUpTo(stops string) string {
	var out []byte
	for !r.isAtEnd() && !r.isAtOne(stops) {
		out = append(out, r.escaped())
	}
	return string(out)
}

// escaped reads one byte of the text that was escaped.
func (r *reader) escaped() byte {
	b, size := r.text[r.at], 1
	switch {
	case b == '%':
		b, size = r.digitBehind(1)<<4|r.digitBehind(2), 3
	case b == '+':
		b = ' '
	case !isPlain(b):
		r.giveUp(api.ErrByte)
	}
	r.at += size
	return b
}

// digitBehind reads the digit so many bytes behind a %; where there is none, it is the % that may not stand there.
func (r *reader) digitBehind(far int) byte {
	if far >= len(r.text)-r.at {
		r.giveUp(api.ErrPercent)
	}
	d, is := digitOf(r.text[r.at+far])
	if !is {
		r.giveUp(api.ErrPercent)
	}
	return d
}
