package reply

import (
	"errors"
	"strconv"
	"strings"

	"ingot/api"
)

// unread is what reading gives up with: the place, and the error that says that there is no reply.
type unread struct {
	at  int
	err error
}

func (u unread) Error() string { return "reply: at " + strconv.Itoa(u.at) + ": " + u.err.Error() }

func (u unread) Unwrap() error { return u.err }

// reader reads a text from the left.
type reader struct {
	text  string
	at    int
	reply api.Reply
}

// Read reads a reply at the beginning of a text.
func Read(s string) (api.Reply, int, api.Errno) {
	r := reader{text: s}
	if err := r.readAll(); errors.Is(err, api.ErrReply) {
		return api.Reply{}, 0, api.ErrReply
	}
	return r.reply, r.at, api.OK
}

func (r *reader) readAll() error {
	for _, read := range [...]func() error{r.readStatus, r.readType, r.readBody, r.compare} {
		if err := read(); err != nil {
			return err
		}
	}
	return nil
}

func (r *reader) giveUp() error { return unread{r.at, api.ErrReply} }

// accept reads some bytes, if they come next.
func (r *reader) accept(next string) bool {
	is := strings.HasPrefix(r.text[r.at:], next)
	if is {
		r.at += len(next)
	}
	return is
}

// line reads what is left of a line.
func (r *reader) line() (string, error) {
	line, _, is := strings.Cut(r.text[r.at:], lineEnd)
	if !is {
		return "", r.giveUp()
	}
	r.at += len(line) + len(lineEnd)
	return line, nil
}

func (r *reader) readStatus() error {
	if !r.accept(version) {
		return r.giveUp()
	}
	line, err := r.line()
	if err != nil {
		return err
	}
	digits, _, _ := strings.Cut(line, " ")
	r.reply.Status, err = r.number(digits)
	return err
}

func (r *reader) number(digits string) (int, error) {
	n, err := strconv.Atoi(digits)
	if err != nil || n < 0 {
		return 0, r.giveUp()
	}
	return n, nil
}

func (r *reader) readType() error {
	if !r.accept(typeName) {
		return nil
	}
	line, err := r.line()
	r.reply.Type = line
	return err
}

func (r *reader) readBody() error {
	if !r.accept(lengthName) {
		return r.giveUp()
	}
	digits, err := r.line()
	if err != nil {
		return err
	}
	size, err := r.number(digits)
	if err != nil {
		return err
	}
	r.reply.Close = r.accept(closeLine)
	if !r.accept(lineEnd) || size > len(r.text)-r.at {
		return r.giveUp()
	}
	r.reply.Body = r.text[r.at : r.at+size]
	r.at += size
	return nil
}

// compare gives up unless what was read is printed just so: other forms of a number, other reasons and types that may not be end here.
func (r *reader) compare() error {
	text, e := Print(r.reply)
	if e != api.OK || text != r.text[:r.at] {
		return r.giveUp()
	}
	return nil
}
