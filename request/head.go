package request

import (
	"bytes"
	"strings"

	"ingot/api"
)

const (
	newest     = "HTTP/1.1"
	older      = "HTTP/1.0"
	mostMethod = 8 // letters of a method
)

// line reads a line that ends within so many bytes, if there is one.
func (r *Reader) line(most int) (string, bool) {
	near := r.rest[:min(most, len(r.rest))]
	size := bytes.Index(near, []byte(lineEnd))
	if size < 0 {
		return "", false
	}
	return string(r.take(size + len(lineEnd))[:size]), true
}

// readHead reads the lines ahead of the body, and then goes on with it.
func (r *Reader) readHead() bool {
lines:
	for {
		room := api.MaxHead - r.read
		line, is := r.line(room)
		switch {
		case !is && len(r.rest) >= room:
			return r.giveUp(headTooLong)
		case !is:
			return false
		case r.isAtFirst():
			if !r.setFirst(line) {
				return r.giveUp(badRequest)
			}
		case line == "":
			break lines
		case len(r.request.Headers) >= api.MaxFields:
			return r.giveUp(headTooLong)
		case !r.addHeader(line):
			return r.giveUp(badRequest)
		}
	}
	return r.beginBody()
}

// isAtFirst tells whether the first line is still to come: no request has an empty method.
func (r *Reader) isAtFirst() bool { return r.request.Method == "" }

func (r *Reader) setFirst(line string) bool {
	method, behind, _ := strings.Cut(line, " ")
	target, version, _ := strings.Cut(behind, " ")
	if !isMethod(method) || !isTarget(target) || version != newest && version != older {
		return false
	}
	r.request.Method, r.request.Target = method, target
	r.request.Keep = version == newest
	return true
}

func (r *Reader) addHeader(line string) bool {
	name, value, is := strings.Cut(line, ":")
	if !is || !isName(name) || !isValue(value) {
		return false
	}
	h := api.Pair{Key: strings.ToLower(name), Value: strings.Trim(value, " \t")}
	if h == (api.Pair{Key: "connection", Value: "close"}) {
		r.request.Keep = false
	}
	r.request.Headers = append(r.request.Headers, h)
	return true
}

// header tells how many headers of a name there are, and the value of the last one.
func (r *Reader) header(name string) (value string, many int) {
	for _, h := range r.request.Headers {
		if h.Key == name {
			value = h.Value
			many++
		}
	}
	return value, many
}

func isMethod(s string) bool {
	return 1 <= len(s) && len(s) <= mostMethod && all(s, isCapital)
}

func isTarget(s string) bool {
	return strings.HasPrefix(s, "/") && all(s, isSeen)
}

func isName(s string) bool { return s != "" && all(s, isOfName) }

func isValue(s string) bool { return all(s, isOfValue) }

func all(s string, is func(b byte) bool) bool {
	for i := range len(s) {
		if !is(s[i]) {
			return false
		}
	}
	return true
}

func isCapital(b byte) bool { return 'A' <= b && b <= 'Z' }

func isDigit(b byte) bool { return '0' <= b && b <= '9' }

// isSeen tells of a byte whether it is written by itself: neither a blank nor one that steers.
func isSeen(b byte) bool { return 33 <= b && b <= 126 }

func isOfName(b byte) bool {
	return isCapital(b) || 'a' <= b && b <= 'z' || isDigit(b) || b == '-'
}

func isOfValue(b byte) bool { return isSeen(b) || b == ' ' || b == '\t' }
