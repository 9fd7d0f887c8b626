package reply_test

import (
	"math"
	"strconv"
	"strings"
	"testing"

	"ingot/api"
	"ingot/reply"
)

func times(n int) string { return strings.Repeat("a", n) }

// wantText holds P24.2 to P24.4 for one reply: its text, and that it is read again, whatever stands behind it, and from nothing less.
func wantText(t *testing.T, r api.Reply, text string) {
	t.Helper()
	if got, e := reply.Print(r); got != text || e != api.OK {
		t.Errorf("Print of %d: %.200q %d, not %.200q", r.Status, got, int(e), text)
	}
	for _, behind := range []string{"", "H", "\r\n", "\r", text, "\x00", times(70000)} {
		wantReply(t, text+behind, r, len(text))
	}
	for i := max(0, len(text)-500); i < len(text); i++ {
		wantNoReply(t, text[:i])
	}
}

func wantNoText(t *testing.T, r api.Reply, is api.Errno) {
	t.Helper()
	if got, e := reply.Print(r); got != "" || e != is {
		t.Errorf("Print of %d %.90q: %.200q %d, not %d", r.Status, r.Type, got, int(e), int(is))
	}
}

func wantReply(t *testing.T, s string, r api.Reply, size int) {
	t.Helper()
	if got, n, e := reply.Read(s); got != r || n != size || e != api.OK {
		t.Errorf("Read of %.200q: %d %.90q %v, %d, %d", s, got.Status, got.Type, got.Close, n, int(e))
	}
}

func wantNoReply(t *testing.T, s string) {
	t.Helper()
	if got, n, e := reply.Read(s); got != (api.Reply{}) || n != 0 || e != api.ErrReply {
		t.Errorf("Read of %.200q: %d %.90q %v, %d, %d", s, got.Status, got.Type, got.Close, n, int(e))
	}
}

// The chapter's example.
func TestExample(t *testing.T) {
	wantText(t, api.Reply{Status: 200, Type: "text/plain", Body: "hi"}, "HTTP/1.1 200 OK\r\ncontent-type: text/plain\r\ncontent-length: 2\r\n\r\nhi")
}

var reasons = map[int]string{
	200: "OK",
	201: "Created",
	400: "Bad Request",
	401: "Unauthorized",
	403: "Forbidden",
	404: "Not Found",
	405: "Method Not Allowed",
	409: "Conflict",
	413: "Content Too Large",
	422: "Unprocessable Content",
	429: "Too Many Requests",
	431: "Request Header Fields Too Large",
	500: "Internal Server Error",
	507: "Insufficient Storage",
}

// P24.1: the reason of each status.
func TestReason(t *testing.T) {
	for status := -1000; status < 2000; status++ {
		want, is := reasons[status]
		if !is {
			want = "Status"
		}
		if got := reply.Reason(status); got != want {
			t.Errorf("%d: %q, not %q", status, got, want)
		}
	}
	for _, status := range []int{math.MinInt, math.MaxInt, 200 + 1<<32, 200 - 1<<40, 1<<16 + 404} {
		if got := reply.Reason(status); got != "Status" {
			t.Errorf("%d: %q", status, got)
		}
	}
}

// P24.2, P24.3: all statuses that may be, and others.
func TestStatus(t *testing.T) {
	for status := 100; status <= 999; status++ {
		first := "HTTP/1.1 " + strconv.Itoa(status) + " " + reply.Reason(status) + "\r\n"
		wantText(t, api.Reply{Status: status}, first+"content-length: 0\r\n\r\n")
	}
	for _, status := range []int{99, 1000, 0, 1, 10, -1, -200, 2000, math.MinInt, math.MaxInt, 200 + 1<<32} {
		wantNoText(t, api.Reply{Status: status}, api.ErrArg)
		wantNoReply(t, "HTTP/1.1 "+strconv.Itoa(status)+" Status\r\ncontent-length: 0\r\n\r\n")
	}
	for _, digits := range []string{"", "0200", "+200", " 200", "200 ", "20O", "2e2", "0xc8", "2_00", "\xd9\xa2\xd9\xa0\xd9\xa0", "99999999999999999999", "100000000000000000200", "18446744073709551816"} {
		wantNoReply(t, "HTTP/1.1 "+digits+" OK\r\ncontent-length: 0\r\n\r\n")
		wantNoReply(t, "HTTP/1.1 "+digits+" Status\r\ncontent-length: 0\r\n\r\n")
	}
}

// P24.3: the first line must have the status' reason.
func TestOtherReasons(t *testing.T) {
	for _, line := range []string{
		"HTTP/1.1 200 Ok", "HTTP/1.1 200 ", "HTTP/1.1 200", "HTTP/1.1 200 OK ", "HTTP/1.1 200  OK", "HTTP/1.1  200 OK", "HTTP/1.1 200 Status", "HTTP/1.1 299 OK",
		"HTTP/1.1 404 Not", "HTTP/1.1 404 Not  Found", "HTTP/1.0 200 OK", "http/1.1 200 OK", "HTTP/1.1\t200 OK", " HTTP/1.1 200 OK", "HTTP/1.1200 OK", "200 OK", "", "\r",
		"HTTP/1.1 200 OK\r", "HTTP/1.1 200 OK\n", "HTTP/1.1 200 OK\nx",
	} {
		wantNoReply(t, line+"\r\ncontent-length: 0\r\n\r\n")
	}
}

// P24.2, P24.3: each byte in a type, within it and at its ends.
func TestTypeBytes(t *testing.T) {
	print := func(kind string) string {
		return "HTTP/1.1 200 OK\r\ncontent-type: " + kind + "\r\ncontent-length: 0\r\n\r\n"
	}
	for i := range 256 {
		b := string([]byte{byte(i)})
		for _, kind := range []string{b, b + "x", "x" + b, "x" + b + "y"} {
			r := api.Reply{Status: 200, Type: kind}
			if 33 <= i && i <= 126 || i == 32 && len(kind) == 3 {
				wantText(t, r, print(kind))
			} else {
				wantNoText(t, r, api.ErrArg)
				wantNoReply(t, print(kind))
			}
		}
	}
	for _, kind := range []string{"  ", " x ", "x  ", "\r\n", "x\r\ny: z", "x\r\ncontent-length: 0", "é"} {
		wantNoText(t, api.Reply{Status: 200, Type: kind}, api.ErrArg)
		wantNoReply(t, print(kind))
	}
	wantText(t, api.Reply{Status: 200, Type: times(64)}, print(times(64)))
	for _, kind := range []string{times(65), times(1 << 16), times(64) + " "} {
		wantNoText(t, api.Reply{Status: 200, Type: kind}, api.ErrArg)
		wantNoReply(t, print(kind))
	}
	wantNoReply(t, print(""))
}

// P24.2, P24.3: bodies of any bytes, up to MaxScript of them.
func TestBody(t *testing.T) {
	var every []byte
	for i := range 256 {
		every = append(every, byte(i))
	}
	const head = "HTTP/1.1 201 Created\r\ncontent-length: "
	for _, body := range []string{"", "x", "\r\n", "\r\n\r\n", string(every), "HTTP/1.1 200 OK\r\ncontent-length: 0\r\n\r\n", times(9), times(10), times(65535), times(65536)} {
		wantText(t, api.Reply{Status: 201, Body: body}, head+strconv.Itoa(len(body))+"\r\n\r\n"+body)
		wantText(t, api.Reply{Status: 201, Body: body, Close: true}, head+strconv.Itoa(len(body))+"\r\nconnection: close\r\n\r\n"+body)
	}
	wantNoText(t, api.Reply{Status: 201, Body: times(65537)}, api.ErrLong)
	wantNoText(t, api.Reply{Status: 201, Body: times(1 << 20)}, api.ErrLong)
	wantNoReply(t, head+"65537\r\n\r\n"+times(65537))
	wantNoReply(t, head+"65537\r\n\r\n"+times(1<<17))
}

// P24.2: what may not be comes ahead of what is too long.
func TestOrderOfErrors(t *testing.T) {
	long := times(65537)
	wantNoText(t, api.Reply{Status: 99, Body: long}, api.ErrArg)
	wantNoText(t, api.Reply{Status: 200, Type: " ", Body: long}, api.ErrArg)
	wantNoText(t, api.Reply{Status: 200, Type: times(65), Body: long}, api.ErrArg)
	wantNoText(t, api.Reply{Status: 200, Type: times(64), Body: long}, api.ErrLong)
	wantNoText(t, api.Reply{}, api.ErrArg)
}

// P24.3: other forms of the lines behind the first one.
func TestOtherLines(t *testing.T) {
	const first = "HTTP/1.1 200 OK\r\n"
	for _, s := range []string{
		"", "\r\n", "\r\n\r\n", "content-length: \r\n\r\n", "content-length: 00\r\n\r\n", "content-length: 01\r\n\r\na", "content-length: +1\r\n\r\na", "content-length: -1\r\n\r\na", "content-length: -0\r\n\r\na",
		"content-length:1\r\n\r\na", "content-length:  1\r\n\r\na", "content-length: 1 \r\n\r\na", "content-length: 1\r\na", "content-length: 1\n\na", "content-length: 1\r\n\ra", "content-length: 1\r\n\na",
		"Content-Length: 1\r\n\r\na", "content-length: 1x\r\n\r\na", "content-length: 0x1\r\n\r\na", "content-length: 1_0\r\n\r\n" + times(10),
		"content-length: 9223372036854775807\r\n\r\na", "content-length: 9223372036854775808\r\n\r\na", "content-length: 18446744073709551617\r\n\r\na", "content-length: -9223372036854775808\r\n\r\na",
		"content-length: 1\r\nconnection: Close\r\n\r\na", "content-length: 1\r\nconnection: close \r\n\r\na", "content-length: 1\r\nconnection:close\r\n\r\na", "content-length: 1\r\nConnection: close\r\n\r\na",
		"content-length: 1\r\nconnection: keep-alive\r\n\r\na", "content-length: 1\r\nconnection: close\r\nconnection: close\r\n\r\na", "content-length: 1\r\nx: y\r\n\r\na",
		"connection: close\r\ncontent-length: 1\r\n\r\na", "content-length: 1\r\ncontent-type: x\r\n\r\na", "content-length: 1\r\ncontent-length: 1\r\n\r\na",
		"content-type: x\r\ncontent-type: x\r\ncontent-length: 1\r\n\r\na", "content-type: x\r\nconnection: close\r\ncontent-length: 1\r\n\r\na", "content-type:x\r\ncontent-length: 1\r\n\r\na",
		"content-type:  x\r\ncontent-length: 1\r\n\r\na", "content-type: x \r\ncontent-length: 1\r\n\r\na", "Content-Type: x\r\ncontent-length: 1\r\n\r\na", "content-type: x\r\n\r\na", "content-type: x\ncontent-length: 1\r\n\r\na",
		"content-type: x\r\n", "content-type: x", "content-type: ", "x: y\r\ncontent-length: 1\r\n\r\na",
	} {
		wantNoReply(t, first+s)
		wantNoReply(t, first+s+times(100))
	}
	wantNoReply(t, first+"content-length: 2\r\n\r\na")
	wantReply(t, first+"content-length: 1\r\n\r\nab", api.Reply{Status: 200, Body: "a"}, len(first)+22)
}

// P24.3: texts that are no replies by far.
func TestNoReply(t *testing.T) {
	for _, s := range []string{"", " ", "H", "HTTP/1.1 ", "HTTP/1.1 200 OK", "HTTP/1.1 200 OK\r", "\x00", "\xff\xfe", "GET / HTTP/1.1\r\n\r\n", times(1 << 20), strings.Repeat("\r\n", 1<<16), "HTTP/1.1 " + strings.Repeat("9", 1<<16)} {
		wantNoReply(t, s)
	}
}
