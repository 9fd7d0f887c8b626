package request_test

import (
	"fmt"
	"reflect"
	"runtime"
	"slices"
	"strconv"
	"strings"
	"testing"

	"ingot/api"
	"ingot/request"
)

const end = "\r\n"

// get is a head that is whole, with some header lines.
func get(headers ...string) string {
	text := "GET / HTTP/1.1" + end
	for _, h := range headers {
		text += h + end
	}
	return text + end
}

// of is what is told of get.
func of(headers ...api.Pair) api.Request {
	return api.Request{Method: "GET", Target: "/", Headers: headers, Keep: true}
}

func times(n int) string { return strings.Repeat("a", n) }

// same holds two requests to each other; a list without an element may be nil or empty.
func same(a, b api.Request) bool {
	if len(a.Headers)+len(b.Headers) == 0 {
		a.Headers, b.Headers = nil, nil
	}
	return reflect.DeepEqual(a, b)
}

func sameEvents(a, b []api.Event) bool {
	return slices.EqualFunc(a, b, func(x, y api.Event) bool { return x.Bad == y.Bad && same(x.Request, y.Request) })
}

func wantEvents(t *testing.T, what string, got []api.Event, is ...api.Event) {
	t.Helper()
	if !sameEvents(got, is) {
		t.Errorf("%.90q: %.200s, not %.200s", what, fmt.Sprintf("%#v", got), fmt.Sprintf("%#v", is))
	}
}

func wantLeft(t *testing.T, what string, r *request.Reader, left int, over bool) {
	t.Helper()
	if r.Left() != left || r.Over() != over {
		t.Errorf("%.90q: left %d, over %v, not %d, %v", what, r.Left(), r.Over(), left, over)
	}
}

// wantTold holds what a new reader tells of a text, which ends with a request that has Keep, whole and byte by byte: the last byte decides.
func wantTold(t *testing.T, text string, l ...api.Request) {
	t.Helper()
	var is []api.Event
	for _, q := range l {
		is = append(is, api.Event{Request: q})
	}
	r := request.New()
	wantEvents(t, text, r.Feed([]byte(text)), is...)
	wantLeft(t, text, r, 0, false)
	bytewise := request.New()
	var told []api.Event
	for i := range len(text) - 1 {
		told = append(told, bytewise.Feed([]byte{text[i]})...)
	}
	wantEvents(t, text+" up to the last byte", told, is[:len(is)-1]...)
	told = append(told, bytewise.Feed([]byte{text[len(text)-1]})...)
	wantEvents(t, text+" byte by byte", told, is...)
	wantLeft(t, text, bytewise, 0, false)
}

// wantBad holds that a text is wrong with its last byte, whatever comes behind it, and not one byte sooner; ahead of that it tells some requests.
func wantBad(t *testing.T, text string, status int, ahead ...api.Request) {
	t.Helper()
	var is []api.Event
	for _, q := range ahead {
		is = append(is, api.Event{Request: q})
	}
	r := request.New()
	wantEvents(t, text+" up to the last byte", r.Feed([]byte(text[:len(text)-1])), is...)
	if r.Over() {
		t.Errorf("%.90q: over too soon", text)
	}
	wantEvents(t, text, r.Feed([]byte{text[len(text)-1]}), api.Event{Bad: status})
	wantLeft(t, text, r, 0, true)
	wantEvents(t, text, r.Feed([]byte(get())))
	wantLeft(t, text, r, 0, true)
	is = append(is, api.Event{Bad: status})
	for _, behind := range []string{"", "\r", "\n", "x", get(), times(5000)} {
		r := request.New()
		wantEvents(t, text, r.Feed([]byte(text+behind)), is...)
		wantLeft(t, text, r, 0, true)
	}
}

// wantWaits holds that a new reader tells nothing of a text.
func wantWaits(t *testing.T, text string) {
	t.Helper()
	r := request.New()
	wantEvents(t, text, r.Feed([]byte(text)))
	wantLeft(t, text, r, len(text), false)
}

// The chapter's examples.
func TestExamples(t *testing.T) {
	r := request.New()
	wantEvents(t, "the first line", r.Feed([]byte("GET / HTTP/1.1\r\n")))
	wantEvents(t, "the empty line", r.Feed([]byte("\r\n")), api.Event{Request: of()})
	wantBad(t, "get / HTTP/1.1\r\n", 400)
}

// P23.1: first lines that are ones.
func TestFirstLines(t *testing.T) {
	for n := 1; n <= 8; n++ {
		q := of()
		q.Method = strings.Repeat("Z", n)
		wantTold(t, q.Method+" / HTTP/1.1\r\n\r\n", q)
	}
	for _, target := range []string{"/", "//", "/a/b?c=d&e#f", "/%41", "/~!\"'\\", "/HTTP/1.1", "/" + times(1000)} {
		q := of()
		q.Target = target
		wantTold(t, "GET "+target+" HTTP/1.1\r\n\r\n", q)
	}
	for _, line := range []string{
		"", " ", "/", "GET", "GET ", "GET /", "GET / ", "GET / HTTP/1.", "GET / HTTP/1.2", "GET / HTTP/1.10",
		"GET / HTTP/2.0", "GET / HTTP/0.9", "GET / http/1.1", "GET / HTTP/1.1 ", " GET / HTTP/1.1", "GET  / HTTP/1.1",
		"GET /  HTTP/1.1", "GET / x HTTP/1.1", "GET a HTTP/1.1", "GET  HTTP/1.1", "GET * HTTP/1.1", "GET http://a/ HTTP/1.1",
		"get / HTTP/1.1", "GEt / HTTP/1.1", "G1 / HTTP/1.1", "/ HTTP/1.1", " / HTTP/1.1", "ABCDEFGHI / HTTP/1.1",
		"GET\t/ HTTP/1.1", "GET /\tHTTP/1.1", "GET / HTTP/1.1\t", "GET / HTTP/1.1\r", "\rGET / HTTP/1.1", "\nGET / HTTP/1.1",
		"GET / HTTP/1.1\n", "GET / HTTP/1.1\na: b", "GET /\xc3\xa9 HTTP/1.1", "GET / HTTP/1.1\x00", "a: b", "GET/ HTTP/1.1", "GET /HTTP/1.1",
	} {
		wantBad(t, line+end, 400)
	}
}

// P23.1: each byte within a method, a target, a version.
func TestFirstLineBytes(t *testing.T) {
	for i := range 256 {
		b := string([]byte{byte(i)})
		first := func(is bool, line string, q api.Request) {
			t.Helper()
			if is {
				wantTold(t, line+end+end, q)
			} else {
				wantBad(t, line+end, 400)
			}
		}
		method, target := of(), of()
		method.Method = "A" + b + "Z"
		target.Target = "/x" + b
		first('A' <= i && i <= 'Z', method.Method+" / HTTP/1.1", method)
		first(33 <= i && i <= 126, "GET /x"+b+" HTTP/1.1", target)
		old := of()
		old.Keep = false
		if b == "0" {
			r := request.New()
			wantEvents(t, "HTTP/1.0", r.Feed([]byte("GET / HTTP/1.0\r\n\r\n")), api.Event{Request: old})
			wantLeft(t, "HTTP/1.0", r, 0, true)
		} else {
			first(b == "1", "GET / HTTP/1."+b, of())
		}
	}
}

// P23.1: header lines that are ones, in order, and how they are told.
func TestHeaders(t *testing.T) {
	for line, h := range map[string]api.Pair{
		"a:b":                        {Key: "a", Value: "b"},
		"a: b":                       {Key: "a", Value: "b"},
		"a:":                         {Key: "a"},
		"a: \t  ":                    {Key: "a"},
		"a:\t b c\td \t":             {Key: "a", Value: "b c\td"},
		"a::":                        {Key: "a", Value: ":"},
		"a:b:c":                      {Key: "a", Value: "b:c"},
		"-: -":                       {Key: "-", Value: "-"},
		"0-Zz9: ~":                   {Key: "0-zz9", Value: "~"},
		"X-Y: A b":                   {Key: "x-y", Value: "A b"},
		"Connection: Close":          {Key: "connection", Value: "Close"},
		"connection: close, te":      {Key: "connection", Value: "close, te"},
		"connection: keep-alive":     {Key: "connection", Value: "keep-alive"},
		"connections: close":         {Key: "connections", Value: "close"},
		"content-lengths: x":         {Key: "content-lengths", Value: "x"},
		times(900) + ":" + times(50): {Key: times(900), Value: times(50)},
	} {
		wantTold(t, get(line), of(h))
	}
	wantTold(t, get("b: 1", "A: 2", "b: 1", "a:"), of(api.Pair{Key: "b", Value: "1"}, api.Pair{Key: "a", Value: "2"}, api.Pair{Key: "b", Value: "1"}, api.Pair{Key: "a"}))
	for _, line := range []string{
		"a", ":", ":b", " a: b", "a : b", "a b: c", "\ta: b", "a\t: b", "a_b: c", "a.b: c", "é: b", " ", "a b", "a: b\r", "a: b\n", "\r", "\n",
		"a: b\nc: d", "a: b\rc: d", "\ra: b", "a: é", "a: \x7f", "a: \x00", "a\r: b", "(a): b", "GET / HTTP/1.1",
	} {
		wantBad(t, "GET / HTTP/1.1\r\n"+line+end, 400)
		wantBad(t, "GET / HTTP/1.1\r\nx: y\r\n"+line+end, 400)
	}
}

// P23.1: each byte within a name, and within a value and at its ends.
func TestHeaderBytes(t *testing.T) {
	const ofNames = "abcdefghijklmnopqrstuvwxyzABCDEFGHIJKLMNOPQRSTUVWXYZ0123456789-"
	for i := range 256 {
		b := string([]byte{byte(i)})
		switch {
		case strings.Contains(ofNames, b):
			wantTold(t, get("x"+b+": v"), of(api.Pair{Key: "x" + strings.ToLower(b), Value: "v"}))
			wantTold(t, get(b+":v"), of(api.Pair{Key: strings.ToLower(b), Value: "v"}))
		case b == ":":
			wantTold(t, get("x:: v"), of(api.Pair{Key: "x", Value: ": v"}))
			wantBad(t, "GET / HTTP/1.1\r\n::v\r\n", 400)
		default:
			wantBad(t, "GET / HTTP/1.1\r\nx"+b+": v\r\n", 400)
			wantBad(t, "GET / HTTP/1.1\r\n"+b+":v\r\n", 400)
		}
		switch {
		case b == " " || b == "\t":
			wantTold(t, get("x:"+b+"v"+b+"w"+b), of(api.Pair{Key: "x", Value: "v" + b + "w"}))
		case 32 <= i && i <= 126:
			wantTold(t, get("x:"+b+"v"+b+"w"+b), of(api.Pair{Key: "x", Value: b + "v" + b + "w" + b}))
		default:
			wantBad(t, "GET / HTTP/1.1\r\nx:"+b+"v\r\n", 400)
			wantBad(t, "GET / HTTP/1.1\r\nx:v"+b+"w\r\n", 400)
			wantBad(t, "GET / HTTP/1.1\r\nx:v"+b+"\r\n", 400)
		}
	}
}

// P23.1: a line that does not end within the first MaxHead bytes of the head.
func TestMaxHead(t *testing.T) {
	wantBad(t, times(2048), 431)
	wantBad(t, strings.Repeat("\n", 2048), 431)
	wantBad(t, strings.Repeat("\r", 2048), 431)
	wantBad(t, "GET /"+times(2043), 431)
	wantBad(t, "GET / HTTP/1.1\r\n"+times(2032), 431)
	wantBad(t, "GET / HTTP/1.1\r\nx: y\r\n"+strings.Repeat(" ", 2026), 431)
	wantBad(t, times(2047)+"\r", 431)
	wantBad(t, times(2046)+"\r\n", 400)
	first := "GET / HTTP/1.1\r\na:"
	room := 2048 - len(first)
	a := func(n int) api.Request { return of(api.Pair{Key: "a", Value: times(n)}) }
	wantTold(t, first+times(room-4)+end+end, a(room-4))
	wantBad(t, first+times(room-3)+end+"\r", 431)
	wantBad(t, first+times(room-2)+end, 431)
	wantBad(t, first+times(room-1)+"\r", 431)
	wantBad(t, first+times(room-3)+"\x00"+end, 400)
	wantBad(t, first+times(room-2)+"\x00"+"\r", 431)
	wantBad(t, get("a: b")+times(2048), 431, of(api.Pair{Key: "a", Value: "b"}))
}

// P23.1: at most MaxFields header lines; one more is too much, whatever is wrong with it.
func TestMaxFields(t *testing.T) {
	fewer := strings.Repeat("a:\r\n", 31)
	most := fewer + "a:\r\n"
	wantTold(t, "GET / HTTP/1.1\r\n"+most+end, of(slices.Repeat([]api.Pair{{Key: "a"}}, 32)...))
	for _, line := range []string{"a:", "a", ":", "\n", "\r", " ", "\xff"} {
		wantBad(t, "GET / HTTP/1.1\r\n"+most+line+end, 431)
	}
	wantBad(t, "GET / HTTP/1.1\r\n"+fewer+"b\r\n", 400)
}

// P23.1: nothing is told of lines that are not whole, whatever is wrong with them.
func TestWaits(t *testing.T) {
	for _, text := range []string{
		"", "G", "get", "GET / HTTP/1.1", "GET / HTTP/1.1\r", "\r", "\n", "\n\n", "\x00\xff", "GET / HTTP/1.1\n\n", times(2047),
		"GET / HTTP/1.1\r\n", "GET / HTTP/1.1\r\n\r", "GET / HTTP/1.1\r\n\n", "GET / HTTP/1.1\r\na b: c", "GET / HTTP/1.1\r\n\x00\r",
		"GET / HTTP/1.1\r\n" + strings.Repeat("a:\r\n", 32) + "bc",
		"GET / HTTP/1.1\r\ncontent-length: x\r\n", "GET / HTTP/1.1\r\ncontent-length: 8193\r\n\r",
		get("content-length: 1"), get("content-length: 5") + "abcd", get("content-length: 8192") + times(8191),
		get("transfer-encoding: chunked"), chunked("1"), chunked("xyz"), chunked("00000"), chunked("1\r"), chunked("\r"),
		chunked("\n\n\n\n\n"), chunked("2\r\n"), chunked("2\r\na"), chunked("2\r\nab"), chunked("2\r\nabc"), chunked("2\r\nab\r"),
		chunked("0\r\n"), chunked("0\r\n\r"), chunked("0\r\nx"), chunked("2000\r\n" + times(8192) + end + "1\r"),
	} {
		wantWaits(t, text)
	}
}

// P23.1: bodies of content-length bytes, whatever bytes these are.
func TestContentLength(t *testing.T) {
	for digits, n := range map[string]int{
		"0": 0, "00": 0, "1": 1, "5": 5, "007": 7, "10": 10, "1000": 1000, "8191": 8191, "8192": 8192,
		strings.Repeat("0", 100) + "12": 12,
	} {
		q := of(api.Pair{Key: "content-length", Value: digits})
		q.Body = times(n)
		wantTold(t, get("Content-Length:\t"+digits+" ")+times(n), q)
	}
	var every []byte
	for i := range 256 {
		every = append(every, byte(i))
	}
	q := of(api.Pair{Key: "content-length", Value: "276"})
	q.Body = get() + string(every) + end
	q.Headers[0].Value = strconv.Itoa(len(q.Body))
	wantTold(t, get("content-length: "+q.Headers[0].Value)+q.Body+get("x: y"), q, of(api.Pair{Key: "x", Value: "y"}))
	for _, value := range []string{"", "x", "-1", "+1", "1 2", "1,1", "1.0", "0x1", "1x", "x1", "1_0", "1\t1", "99999999999999999999x", "-0", "/", ":", "1e1"} {
		wantBad(t, get("content-length: "+value), 400)
	}
	for _, value := range []string{"8193", "08193", "9999", "10000", "81920", "65536", "4294967296", "4294967297", "18446744073709551616", "18446744073709551617", strings.Repeat("9", 1900)} {
		wantBad(t, get("content-length: "+value), 413)
	}
}

// P23.1: how a body comes must be said once, and so that it can be known; what is too long comes behind that.
func TestBodyHeaders(t *testing.T) {
	const length, coding = "content-length: 1", "transfer-encoding: chunked"
	for _, l := range [][]string{
		{length, length},
		{length, "Content-Length: 2"},
		{"content-length: 0", "content-length: 0"},
		{"content-length: 9999", "content-length: 9999"},
		{"content-length: 9999", coding},
		{"content-length: x", "content-length: 1"},
		{coding, coding},
		{"Transfer-Encoding: chunked", "x: y", coding},
		{coding, "transfer-encoding: gzip"},
		{length, coding},
		{coding, length},
		{coding, "x: y", "CONTENT-LENGTH: 0"},
		{"transfer-encoding: gzip", length},
		{"transfer-encoding:"},
		{"transfer-encoding: Chunked"},
		{"transfer-encoding: chunked, chunked"},
		{"transfer-encoding: gzip, chunked"},
		{"transfer-encoding: identity"},
		{"transfer-encoding: chunke"},
		{"transfer-encoding: chunkedd"},
		{"transfer-encoding: chunked;q=1"},
		{"transfer-encoding: 1"},
		{"content-length: chunked"},
		{"connection: close", length, length},
	} {
		wantBad(t, get(l...), 400)
	}
	wantTold(t, get("Transfer-ENCODING:\tchunked\t")+"0\r\n\r\n", of(api.Pair{Key: "transfer-encoding", Value: "chunked"}))
}

// chunked is a head, and behind it what is to be chunks.
func chunked(body string) string { return get("transfer-encoding: chunked") + body }

func wantChunks(t *testing.T, chunks, body string) {
	t.Helper()
	q := of(api.Pair{Key: "transfer-encoding", Value: "chunked"})
	q.Body = body
	wantTold(t, chunked(chunks), q)
	wantTold(t, chunked(chunks)+get(), q, of())
	wantTold(t, get()+chunked(chunks)+chunked(chunks), of(), q, q)
}

// P23.1: bodies in chunks.
func TestChunks(t *testing.T) {
	for _, none := range []string{"0", "00", "000", "0000"} {
		wantChunks(t, none+end+end, "")
		wantChunks(t, "1\r\nx\r\n"+none+end+end, "x")
	}
	wantChunks(t, "3\r\na\r\n\r\n0a\r\n0123456789\r\n0\r\n\r\n", "a\r\n0123456789")
	wantChunks(t, "7\r\n0\r\n\r\n\r\n\r\n2\r\n\r\n\r\n0\r\n\r\n", "0\r\n\r\n\r\n\r\n")
	wantChunks(t, "a\r\n"+times(10)+"\r\nA\r\n"+times(10)+"\r\n0\r\n\r\n", times(20))
	wantChunks(t, "fF\r\n"+times(255)+"\r\n00Bc\r\n"+times(188)+"\r\n0\r\n\r\n", times(443))
	wantChunks(t, "1234\r\n"+times(0x1234)+"\r\nDcB\r\n"+times(0xdcb)+"\r\n0\r\n\r\n", times(0x1234+0xdcb))
	var every []byte
	for i := range 256 {
		every = append(every, byte(i))
	}
	wantChunks(t, "100\r\n"+string(every)+"\r\n0\r\n\r\n", string(every))
	for _, wrong := range []string{
		"\r\n", "x\r\n", "g\r\n", "-1\r\n", "+1\r\n", " 1\r\n", "1 \r\n", "0x1\r\n", "1_0\r\n", "1;\r\n", "1\r\r\n", "1\n\r\n", "\n\r\n", "\n1\r\n", "1h\r\n",
		"00000\r", "12345\r", "000000", "2;x=1\r", "      ", "1\n\n\n\n\n", "\n\n\n\n\n\n", "1\ra\nbc", "\r\r\r\r\r\r", "\xff\r\n", "\x00\r\n",
		"1\r\nxx\r", "1\r\nx\n\r", "1\r\nx\r\r", "1\r\nx\n\n", "1\r\nx\rx", "2\r\nabcd", "1\r\nx0\r",
		"0\r\nx:", "0\r\n\r\r", "0\r\n\n\r", "0\r\n0\r", "0\r\n\n\n",
		"1\r\nx\r\n\r\n", "1\r\nx\r\nq\r\n", "1\r\nx\r\n00000\r",
	} {
		wantBad(t, chunked(wrong), 400)
		wantBad(t, chunked("1\r\n\x00\r\n"+wrong), 400)
	}
}

// P23.1: each byte as a digit of a chunk's line.
func TestChunkDigits(t *testing.T) {
	const digits = "0123456789abcdefABCDEF"
	for i := range 256 {
		b := string([]byte{byte(i)})
		if !strings.Contains(digits, b) {
			wantBad(t, chunked(b+end), 400)
			wantBad(t, chunked("0"+b+"1"+end), 400)
			continue
		}
		n, err := strconv.ParseInt(b, 16, 0)
		if err != nil {
			t.Fatal(err)
		}
		wantChunks(t, "1"+b+end+times(16+int(n))+end+"0\r\n\r\n", times(16+int(n)))
		wantChunks(t, "01"+b+"0"+end+times(256+16*int(n))+end+"0\r\n\r\n", times(256+16*int(n)))
	}
}

// P23.1: the bytes of all chunks together are at most MaxBody.
func TestChunksTooLong(t *testing.T) {
	half := "1000\r\n" + times(4096) + end
	wantChunks(t, "2000\r\n"+times(8192)+end+"0\r\n\r\n", times(8192))
	wantChunks(t, half+half+"0\r\n\r\n", times(8192))
	wantChunks(t, half+"fff\r\n"+times(4095)+end+"1\r\na\r\n0\r\n\r\n", times(8192))
	wantChunks(t, strings.Repeat("0001\r\na\r\n", 8192)+"0000\r\n\r\n", times(8192))
	for _, long := range []string{"2001\r\n", "ffff\r\n", "8000\r\n", "7FFF\r\n", half + "1001\r\n", half + half + "1\r\n", half + "fff\r\n" + times(4095) + end + "2\r\n"} {
		wantBad(t, chunked(long), 413)
	}
	wantBad(t, chunked(half+half+"g\r\n"), 400)
}

// P23.1: which requests have Keep, and that the reader is over behind one that has not.
func TestKeep(t *testing.T) {
	for _, c := range []struct {
		version string
		headers []string
		keep    bool
	}{
		{"1.1", nil, true},
		{"1.0", nil, false},
		{"1.0", []string{"connection: keep-alive"}, false},
		{"1.0", []string{"connection: close"}, false},
		{"1.1", []string{"connection: close"}, false},
		{"1.1", []string{"CONNECTION:close\t"}, false},
		{"1.1", []string{"connection: keep-alive", "connection: close"}, false},
		{"1.1", []string{"connection: close", "connection: keep-alive"}, false},
		{"1.1", []string{"connection: Close"}, true},
		{"1.1", []string{"connection: close, x"}, true},
		{"1.1", []string{"connection:"}, true},
		{"1.1", []string{"connection: closed"}, true},
		{"1.1", []string{"proxy-connection: close"}, true},
		{"1.1", []string{"x: close"}, true},
	} {
		for _, body := range []string{"", "a", "abc"} {
			text := "PUT /x HTTP/" + c.version + end + strings.Join(append(c.headers, "content-length: "+strconv.Itoa(len(body))), end) + end + end + body
			r := request.New()
			l := r.Feed([]byte(text + get()[:5]))
			if len(l) != 1 || l[0].Bad != 0 || l[0].Request.Body != body || l[0].Request.Keep != c.keep {
				t.Errorf("%q: %v", text, l)
			}
			if c.keep {
				wantLeft(t, text, r, 5, false)
				wantEvents(t, text, r.Feed([]byte(get()[5:])), api.Event{Request: of()})
				continue
			}
			wantLeft(t, text, r, 0, true)
			wantEvents(t, text, r.Feed([]byte(get())))
			wantLeft(t, text, r, 0, true)
		}
	}
}

// P23.1: Left counts the bytes of a request that is not told, from its first one on.
func TestLeft(t *testing.T) {
	parts := get() + get("content-length: 3") + "abc"
	for _, last := range []string{chunked("1\r\nx\r\n2\r\nyz\r\n0\r\n\r\n"), get("content-length: 4") + "abcd", get("a: b", "c: d")} {
		r := request.New()
		if l := r.Feed([]byte(parts + parts)); len(l) != 4 {
			t.Error(l)
		}
		wantLeft(t, parts, r, 0, false)
		for i := range len(last) - 1 {
			wantEvents(t, last, r.Feed([]byte{last[i]}))
			wantLeft(t, last, r, i+1, false)
			wantEvents(t, "nothing", r.Feed(nil))
			wantEvents(t, "nothing", r.Feed([]byte{}))
			wantLeft(t, last, r, i+1, false)
		}
		if l := r.Feed([]byte(last[len(last)-1:] + "GET")); len(l) != 1 || l[0].Bad != 0 {
			t.Error(l)
		}
		wantLeft(t, last, r, 3, false)
	}
}

// P23.1: what is told ahead of a wrong request, of one Feed.
func TestMixed(t *testing.T) {
	r := request.New()
	l := r.Feed([]byte(get() + get("a: b") + "x\r\n" + get()))
	wantEvents(t, "two and a wrong one", l, api.Event{Request: of()}, api.Event{Request: of(api.Pair{Key: "a", Value: "b"})}, api.Event{Bad: 400})
	wantLeft(t, "two and a wrong one", r, 0, true)
	wantBad(t, get()+get()+"x\r\n", 400, of(), of())
	wantBad(t, get()+chunked("g\r\n"), 400, of())
	wantBad(t, get()+"\r\n", 400, of())
}

// P23.1, P23.3: many bytes, of one Feed and of many.
func TestManyBytes(t *testing.T) {
	const many = 50000
	l := request.New().Feed([]byte(strings.Repeat(get("a: b"), many)))
	if len(l) != many || !same(l[many-1].Request, of(api.Pair{Key: "a", Value: "b"})) {
		t.Error(len(l))
	}
	text := chunked(strings.Repeat("1\r\na\r\n", 8192) + "0\r\n\r\n")
	r, n := request.New(), 0
	for range 10 {
		for i := range len(text) {
			n += len(r.Feed([]byte{text[i]}))
		}
	}
	if n != 10 || r.Left() != 0 {
		t.Error(n, r.Left())
	}
}

// What a reader keeps is no more than what waits, however much came with it.
func TestKeepsLittle(t *testing.T) {
	const great = 1 << 20
	var readers []*request.Reader
	many := []byte(strings.Repeat(get("content-length: 8000")+times(8000), great/8000) + "GET")
	for range 100 {
		r := request.New()
		r.Feed(many)
		readers = append(readers, r)
	}
	var now runtime.MemStats
	runtime.GC()
	runtime.ReadMemStats(&now)
	if now.HeapAlloc > 50*great {
		t.Error(now.HeapAlloc)
	}
	for _, r := range readers {
		wantLeft(t, "many", r, 3, false)
	}
}

// Rule 4: what is handed in is neither changed nor kept, and what is told is nobody else's memory.
func TestMemory(t *testing.T) {
	text := "POST /a HTTP/1.1\r\nX-Y: Z\r\na: b\r\nc: d\r\ncontent-length: 4\r\n\r\nbody"
	q := api.Request{Method: "POST", Target: "/a", Headers: []api.Pair{{Key: "x-y", Value: "Z"}, {Key: "a", Value: "b"}, {Key: "c", Value: "d"}, {Key: "content-length", Value: "4"}}, Body: "body", Keep: true}
	for cut := range len(text) {
		r := request.New()
		piece := append([]byte(text[:cut]), "spare"...)
		r.Feed(piece[:cut])
		if string(piece) != text[:cut]+"spare" {
			t.Errorf("changed: %q", piece)
		}
		for i := range piece {
			piece[i] = '#'
		}
		one := r.Feed([]byte(text[cut:] + text[:cut]))
		two := r.Feed([]byte(text[cut:]))
		wantEvents(t, text, one, api.Event{Request: q})
		wantEvents(t, text, two, api.Event{Request: q})
		spoil := one[0].Request.Headers
		for i := range spoil[:cap(spoil)] {
			spoil[:cap(spoil)][i] = api.Pair{Key: "#"}
		}
		for i := range one[:cap(one)] {
			one[:cap(one)][i] = api.Event{Bad: 1}
		}
		wantEvents(t, text, two, api.Event{Request: q})
		wantEvents(t, text, r.Feed([]byte(text)), api.Event{Request: q})
	}
}

// Readers know nothing of each other.
func TestTwoReaders(t *testing.T) {
	a, b := request.New(), request.New()
	a.Feed([]byte("GET / HTTP/1.1\r\na: "))
	b.Feed([]byte("x\r\n"))
	wantLeft(t, "b", b, 0, true)
	wantEvents(t, "a", a.Feed([]byte("b\r\n\r\n")), api.Event{Request: of(api.Pair{Key: "a", Value: "b"})})
	wantLeft(t, "a", a, 0, false)
}

// Rule 1: a reader that no call made is over, and stays so.
func TestNotMade(t *testing.T) {
	for what, r := range map[string]*request.Reader{"nil": nil, "plain": {}, "new": new(request.Reader)} {
		for range 2 {
			wantLeft(t, what, r, 0, true)
			for _, b := range [][]byte{nil, {}, []byte("x\r\n"), []byte(get()), []byte(times(3000))} {
				wantEvents(t, what, r.Feed(b))
			}
			wantLeft(t, what, r, 0, true)
		}
	}
}
