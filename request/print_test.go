package request_test

import (
	"math/rand"
	"slices"
	"strconv"
	"strings"
	"testing"

	"ingot/api"
	"ingot/request"
)

func wantText(t *testing.T, q api.Request, text string) {
	t.Helper()
	got, e := request.Print(q)
	if got != text || e != api.OK {
		t.Errorf("Print: %.90q %d, not %.90q", got, int(e), text)
	}
	wantEvents(t, text, request.New().Feed([]byte(text)), api.Event{Request: q})
}

func wantNoText(t *testing.T, what string, q api.Request) {
	t.Helper()
	if got, e := request.Print(q); got != "" || e != api.ErrArg {
		t.Errorf("%s: %.90q %d", what, got, int(e))
	}
}

// P23.2: requests as they are written.
func TestPrint(t *testing.T) {
	wantText(t, of(), "GET / HTTP/1.1\r\n\r\n")
	empty := of()
	empty.Headers = []api.Pair{}
	wantText(t, empty, "GET / HTTP/1.1\r\n\r\n")
	wantText(t, of(api.Pair{Key: "a", Value: "b c"}, api.Pair{Key: "x-1"}), "GET / HTTP/1.1\r\na: b c\r\nx-1: \r\n\r\n")
	wantText(t, of(api.Pair{Key: "a", Value: ":b"}, api.Pair{Key: "a", Value: ":b"}), "GET / HTTP/1.1\r\na: :b\r\na: :b\r\n\r\n")
	last := of(api.Pair{Key: "connection", Value: "close"})
	last.Keep = false
	wantText(t, last, "GET / HTTP/1.1\r\nconnection: close\r\n\r\n")
	post := api.Request{Method: "POST", Target: "/a?b", Headers: []api.Pair{{Key: "content-length", Value: "5"}}, Body: "a\r\n\r\n", Keep: true}
	wantText(t, post, "POST /a?b HTTP/1.1\r\ncontent-length: 5\r\n\r\na\r\n\r\n")
	post.Headers[0].Value = "0005"
	wantText(t, post, "POST /a?b HTTP/1.1\r\ncontent-length: 0005\r\n\r\na\r\n\r\n")
	post.Headers[0].Value, post.Body = "8192", times(8192)
	wantText(t, post, "POST /a?b HTTP/1.1\r\ncontent-length: 8192\r\n\r\n"+times(8192))
	post.Headers[0].Value, post.Body = "0", ""
	wantText(t, post, "POST /a?b HTTP/1.1\r\ncontent-length: 0\r\n\r\n")
}

// P23.2: what a reader would not tell just so.
func TestNoPrint(t *testing.T) {
	const another = "/ HTTP/1.1\r\n\r\nPUT / HTTP/1.1\r\ncontent-length: 5\r\nx:" // a request that is whole, and the beginning of one that is not
	wantNoText(t, "an empty request", api.Request{})
	wantNoText(t, "an empty request with Keep", api.Request{Keep: true})
	for _, method := range []string{"", "get", "ABCDEFGHI", "A B", "G\r", "GET / HTTP/1.1\r\n\r\nGET", "GET " + another} {
		q := of()
		q.Method = method
		wantNoText(t, method, q)
	}
	for _, target := range []string{"", "a", " /", "/ ", "/a b", "/\r\n", "/\x7f", "/é", "/ HTTP/1.1\r\n\r\nGET /", "/ HTTP/1.1\r\nb: c", another} {
		q := of()
		q.Target = target
		wantNoText(t, target, q)
	}
	for _, h := range []api.Pair{
		{}, {Value: "b"}, {Key: "A", Value: "b"}, {Key: "a b"}, {Key: "a_"}, {Key: "a:", Value: "b"}, {Key: "é"}, {Key: "a\r\n"},
		{Key: "a", Value: " b"}, {Key: "a", Value: "b "}, {Key: "a", Value: "\tb"}, {Key: "a", Value: "b\t"}, {Key: "a", Value: " "},
		{Key: "a", Value: "\r\n"}, {Key: "a", Value: "b\r\nc: d"}, {Key: "a", Value: "b\n"}, {Key: "a", Value: "\x00"}, {Key: "a", Value: "é"},
		{Key: "a: b\r\nc", Value: "d"}, {Key: "a", Value: "b\r\n\r\n"}, {Key: "connection", Value: "close"},
		{Key: "content-length", Value: "1"}, {Key: "content-length", Value: "x"}, {Key: "content-length", Value: ""}, {Key: "content-length", Value: "8193"},
		{Key: "transfer-encoding", Value: "chunked"}, {Key: "transfer-encoding", Value: "gzip"}, {Key: "a", Value: times(2048)},
	} {
		wantNoText(t, h.Key+": "+h.Value, of(h))
		wantNoText(t, h.Key+": "+h.Value, of(api.Pair{Key: "x", Value: "y"}, h))
	}
	notKept := of()
	notKept.Keep = false
	wantNoText(t, "no Keep", notKept)
	kept := of(api.Pair{Key: "connection", Value: "close"})
	wantNoText(t, "Keep", kept)
	for _, b := range []string{"x", "\r\n", get(), times(8193)} {
		q := of()
		q.Body = b
		wantNoText(t, "a body that is not announced", q)
		q.Headers = []api.Pair{{Key: "content-length", Value: strconv.Itoa(len(b) + 1)}}
		wantNoText(t, "a body that is too short", q)
		q.Headers[0].Value = strconv.Itoa(len(b) - 1)
		wantNoText(t, "a body that is too long", q)
		q.Headers = []api.Pair{{Key: "connection", Value: "close"}}
		q.Keep = false
		wantNoText(t, "a body behind the end", q)
	}
	long := of(api.Pair{Key: "content-length", Value: "8193"})
	long.Body = times(8193)
	wantNoText(t, "a body beyond MaxBody", long)
	for _, b := range []string{"", "0\r\n\r\n", "1\r\nx\r\n0\r\n\r\n"} {
		q := of(api.Pair{Key: "transfer-encoding", Value: "chunked"})
		q.Body = b
		wantNoText(t, "chunks", q)
	}
}

// P23.2: the limits of a head.
func TestPrintLimits(t *testing.T) {
	wantText(t, of(slices.Repeat([]api.Pair{{Key: "a"}}, 32)...), "GET / HTTP/1.1\r\n"+strings.Repeat("a: \r\n", 32)+"\r\n")
	wantNoText(t, "a field more", of(slices.Repeat([]api.Pair{{Key: "a"}}, 33)...))
	wantNoText(t, "many fields more", of(make([]api.Pair, 1<<16)...))
	room := 2048 - len("GET / HTTP/1.1\r\na: \r\n\r\n")
	wantText(t, of(api.Pair{Key: "a", Value: times(room)}), "GET / HTTP/1.1\r\na: "+times(room)+"\r\n\r\n")
	wantNoText(t, "a byte more", of(api.Pair{Key: "a", Value: times(room + 1)}))
	q := of()
	q.Target = "/" + times(1<<20)
	wantNoText(t, "a long target", q)
}

// isPrinted tells whether a request that was read is one that Print writes: not in chunks, nor of HTTP/1.0, nor with a head that is too long, with a blank behind each colon.
func isPrinted(q api.Request) bool {
	has := func(is func(h api.Pair) bool) bool { return slices.ContainsFunc(q.Headers, is) }
	coded := has(func(h api.Pair) bool { return h.Key == "transfer-encoding" })
	closed := has(func(h api.Pair) bool { return h.Key == "connection" && h.Value == "close" })
	return q.Method != "" && !coded && q.Keep != closed && headSize(q) <= 2048
}

// P23.2, P23.4: what was read is printed, and read as it was, one behind the other.
func TestThereAndBack(t *testing.T) {
	met := map[bool]int{}
	for seed := range int64(2000) {
		told, _, _ := model(texts(rand.New(rand.NewSource(seed))))
		var text string
		var is []api.Event
		for _, e := range told {
			piece, errno := request.Print(e.Request)
			if isPrinted(e.Request) != (errno == api.OK) {
				t.Errorf("%v: %d", e.Request, int(errno))
			}
			met[errno == api.OK]++
			if errno != api.OK {
				wantNoText(t, "by chance", e.Request)
				continue
			}
			text += piece
			is = append(is, e)
		}
		wantEvents(t, text, request.New().Feed([]byte(text)), is...)
	}
	if met[true] < 1000 || met[false] < 500 {
		t.Error(met)
	}
}

// headSize tells how many bytes the head of a request has as it is printed.
func headSize(q api.Request) int {
	n := len(q.Method) + len(q.Target) + len("  HTTP/1.1\r\n\r\n")
	for _, h := range q.Headers {
		n += len(h.Key) + len(h.Value) + len(": \r\n")
	}
	return n
}

// Rule 4: what is handed in stays as it is, and what lies behind its length is not printed.
func TestPrintMemory(t *testing.T) {
	room := []api.Pair{{Key: "a", Value: "b"}, {Key: "c", Value: "d"}, {Key: "spare", Value: "room"}}
	was := slices.Clone(room)
	wantText(t, of(room[:2]...), "GET / HTTP/1.1\r\na: b\r\nc: d\r\n\r\n")
	q := of()
	q.Headers = room[:2]
	wantText(t, q, "GET / HTTP/1.1\r\na: b\r\nc: d\r\n\r\n")
	if !slices.Equal(room, was) {
		t.Error(room)
	}
}
