package request_test

import (
	"bufio"
	"io"
	"math/rand"
	"net/http"
	"regexp"
	"strconv"
	"strings"
	"testing"

	"ingot/api"
	"ingot/request"
)

var (
	firstLine  = regexp.MustCompile(`^([A-Z]{1,8}) (/[!-~]*) HTTP/1\.([01])$`)
	headerLine = regexp.MustCompile(`^([A-Za-z0-9-]+):[ \t]*([ -~\t]*?)[ \t]*$`)
	sizeLine   = regexp.MustCompile(`^[0-9A-Fa-f]{1,4}$`)
	digitsOnly = regexp.MustCompile(`^[0-9]+$`)
)

// model tells by the words of the chapter what is told of all bytes that came, looking at them from the first one on.
func model(s string) (told []api.Event, left int, over bool) {
	for {
		e, size := first(s)
		if size == 0 {
			return told, len(s), false
		}
		told = append(told, e)
		if e.Bad != 0 || !e.Request.Keep {
			return told, 0, true
		}
		s = s[size:]
	}
}

func wrong(status int) (api.Event, int) { return api.Event{Bad: status}, 1 }

func waits() (api.Event, int) { return api.Event{}, 0 }

// first tells the event of the first request of a text, and how many bytes that has: none, if it is not whole.
func first(s string) (api.Event, int) {
	var q api.Request
	at := 0
	for n := 0; ; n++ {
		line, _, is := strings.Cut(s[at:min(len(s), 2048)], "\r\n")
		switch {
		case !is && len(s) < 2048:
			return waits()
		case !is || n > 32 && line != "":
			return wrong(431)
		}
		at += len(line) + 2
		if n > 0 && line == "" {
			break
		}
		if n == 0 {
			m := firstLine.FindStringSubmatch(line)
			if m == nil {
				return wrong(400)
			}
			q.Method, q.Target, q.Keep = m[1], m[2], m[3] == "1"
			continue
		}
		m := headerLine.FindStringSubmatch(line)
		if m == nil {
			return wrong(400)
		}
		q.Headers = append(q.Headers, api.Pair{Key: strings.ToLower(m[1]), Value: m[2]})
	}
	return withBody(q, s, at)
}

// withBody tells the event of a request whose head is the beginning of a text.
func withBody(q api.Request, s string, at int) (api.Event, int) {
	how := map[string][]string{}
	for _, h := range q.Headers {
		how[h.Key] = append(how[h.Key], h.Value)
		q.Keep = q.Keep && (h.Key != "connection" || h.Value != "close")
	}
	lengths, codings := how["content-length"], how["transfer-encoding"]
	size, coded := 0, 0
	switch {
	case len(lengths)+len(codings) > 1:
		return wrong(400)
	case len(codings) == 1 && codings[0] != "chunked":
		return wrong(400)
	case len(codings) == 1:
		body, n, bad := unchunk(s[at:])
		if bad != 0 {
			return wrong(bad)
		}
		if n == 0 {
			return waits()
		}
		q.Body, coded = body, n
	case len(lengths) == 1:
		if !digitsOnly.MatchString(lengths[0]) {
			return wrong(400)
		}
		digits := strings.TrimLeft(lengths[0], "0")
		size, _ = strconv.Atoi("0" + digits[:min(len(digits), 6)])
		if size > 8192 {
			return wrong(413)
		}
		if len(s) < at+size {
			return waits()
		}
		q.Body = s[at : at+size]
	}
	return api.Event{Request: q}, at + size + coded
}

// unchunk tells the body of chunks, and how many bytes they have: none, if they are not whole.
func unchunk(s string) (body string, n, bad int) {
	for {
		line, _, is := strings.Cut(s[n:min(len(s), n+6)], "\r\n")
		switch {
		case !is && len(s) < n+6:
			return "", 0, 0
		case !is || !sizeLine.MatchString(line):
			return "", 0, 400
		}
		size, _ := strconv.ParseInt(line, 16, 0)
		if len(body)+int(size) > 8192 {
			return "", 0, 413
		}
		n += len(line) + 2
		if len(s) < n+int(size)+2 {
			return "", 0, 0
		}
		body += s[n : n+int(size)]
		n += int(size) + 2
		if s[n-2:n] != "\r\n" {
			return "", 0, 400
		}
		if size == 0 {
			return body, n, 0
		}
	}
}

// holdPieces feeds a text in pieces that end at some places, and holds what is told behind each of them to the model.
func holdPieces(t *testing.T, text string, next func(at int) int) []api.Event {
	t.Helper()
	r := request.New()
	var told []api.Event
	for at := 0; at < len(text); {
		to := min(next(at), len(text))
		told = append(told, r.Feed([]byte(text[at:to]))...)
		at = to
		is, left, over := model(text[:at])
		if !sameEvents(told, is) || r.Left() != left || r.Over() != over {
			t.Fatalf("%.400q: %v %d %v, not %v %d %v", text[:at], told, r.Left(), r.Over(), is, left, over)
		}
	}
	return told
}

func whole(text string) func(int) int { return func(int) int { return len(text) } }

// hold holds what is told of a text as one piece, byte by byte and in pieces by chance, and tells the last event's status, or whether it is a request (1), or nothing (0).
func hold(t *testing.T, text string, r *rand.Rand) int {
	t.Helper()
	told := holdPieces(t, text, whole(text))
	holdPieces(t, text, func(at int) int { return at + 1 + r.Intn(1+len(text)/10) })
	if len(text) < 250 {
		holdPieces(t, text, func(at int) int { return at + 1 })
	}
	if len(told) == 0 {
		return 0
	}
	return max(1, told[len(told)-1].Bad)
}

// P23.1, P23.3: all short lines of some pieces, ahead of a body and in chunks.
func TestAllShortTexts(t *testing.T) {
	for _, c := range []struct {
		ahead  string
		pieces []string
	}{
		{"", []string{"G", " ", "/", "HTTP/1.1", "HTTP/1.0", "\r", "\n"}},
		{"GET / HTTP/1.1\r\n", []string{"a", ":", " ", "\r", "\n", "GET / HTTP/1.0\r\n"}},
		{"GET / HTTP/1.1\r\n", []string{"connection:", "close", " ", "\r\n", "Transfer-Encoding:chunked", "content-length:1", "0"}},
		{"GET / HTTP/1.1\r\ncontent-length:", []string{"0", "3", " ", "\r", "\n", "\r\n\r\n", "x"}},
		{chunked(""), []string{"0", "2", "A", "\r", "\n", "\r\n", ";"}},
		{chunked("1\r\n"), []string{"0", "\r", "\n", "\r\n", "G"}},
	} {
		met := map[int]int{}
		level := []string{c.ahead}
		for range 6 {
			var next []string
			for _, s := range level {
				told := holdPieces(t, s, whole(s))
				met[len(told)]++
				for _, p := range c.pieces {
					next = append(next, s+p)
				}
			}
			level = next
		}
		if met[0] < 100 || met[1] < 100 {
			t.Errorf("%q: %v", c.ahead, met)
		}
	}
}

// pick takes one of some texts by chance.
func pick(r *rand.Rand, of ...string) string { return of[r.Intn(len(of))] }

// headers makes header lines by chance, now and then wrong ones.
func headers(r *rand.Rand) []string {
	var l []string
	for range r.Intn(4) {
		l = append(l, pick(r, "a: b", "X-Y:\tz  ", "accept: h", "q:", "connection: keep-alive", "Content-Type: text/plain; x=1"))
	}
	switch r.Intn(30) {
	case 0:
		l = append(l, pick(r, "a b: c", "a", ": b", "a: \x7f", "a: b\r", "a\n: b", " a: b"))
	case 1:
		l = append(l, pick(r, "connection: close", "Connection:close"))
	case 2:
		for range 25 + r.Intn(12) {
			l = append(l, "n: m")
		}
	case 3:
		l = append(l, "long: "+times(1000+r.Intn(1100)))
	case 4:
		l = append(l, pick(r, "content-length: 2", "transfer-encoding: chunked", "transfer-encoding: gzip", "content-length: 2x"))
	}
	return l
}

// body makes a body by chance, and its header lines.
func body(r *rand.Rand) ([]string, string) {
	bytes := make([]byte, r.Intn(1+r.Intn(60)))
	if r.Intn(40) == 0 {
		bytes = make([]byte, 8150+r.Intn(50))
	}
	r.Read(bytes)
	switch r.Intn(4) {
	case 0:
		return nil, ""
	case 1:
		return []string{"Content-Length: " + pick(r, "", "", "000") + strconv.Itoa(len(bytes))}, string(bytes)
	}
	var text string
	for len(bytes) > 0 {
		n := 1 + r.Intn(len(bytes))
		text += pick(r, "", "0", "") + strconv.FormatInt(int64(n), 16) + "\r\n" + string(bytes[:n]) + "\r\n"
		bytes = bytes[n:]
	}
	text += pick(r, "0", "0", "000") + "\r\n\r\n"
	if r.Intn(10) == 0 {
		at := r.Intn(len(text))
		text = text[:at] + pick(r, "\r", "\n", "z", "0", "") + text[at+1:]
	}
	return []string{"transfer-encoding: chunked"}, text
}

// texts makes the text of some requests by chance, now and then a wrong one or one that ends too soon.
func texts(r *rand.Rand) string {
	var all string
	for range 1 + r.Intn(4) {
		how, bytes := body(r)
		lines := append(headers(r), how...)
		r.Shuffle(len(lines), func(i, j int) { lines[i], lines[j] = lines[j], lines[i] })
		first := pick(r, "GET", "POST", "DELETE", "OPTIONSX") + " " + pick(r, "/", "/a?b", "/x/y") + " HTTP/1.1"
		if r.Intn(30) == 0 {
			first = pick(r, "", "get / HTTP/1.1", "GET / HTTP/1.0", "GET / HTTP/1.2", "GET /", "TOOMANYLETTERS / HTTP/1.1", "GET / \xff")
		}
		all += strings.Join(append([]string{first}, append(lines, "", "")...), "\r\n") + bytes
	}
	if r.Intn(10) == 0 {
		all = all[:r.Intn(len(all))]
	}
	return all
}

// P23.1, P23.3: texts by chance, cut anywhere.
func TestTextsByChance(t *testing.T) {
	met := map[int]int{}
	for seed := range int64(4000) {
		r := rand.New(rand.NewSource(seed))
		met[hold(t, texts(r), r)]++
	}
	for _, status := range []int{0, 1, 400, 413, 431} {
		if met[status] < 15 {
			t.Error("too seldom:", status, met)
		}
	}
}

// P23.3: a text cut at each one place, and at each two of a short one.
func TestCuts(t *testing.T) {
	text := get("a: b") + chunked("2\r\n\r\n\r\n0\r\n\r\n") + get("content-length: 2") + "\r\n" + get("connection: close") + "x"
	is, _, _ := model(text)
	if len(is) != 4 {
		t.Fatal(is)
	}
	for i := range len(text) {
		for j := range len(text) {
			cuts := []int{min(i, j), max(i, j), len(text)}
			holdPieces(t, text, func(at int) int {
				for _, c := range cuts {
					if c > at {
						return c
					}
				}
				return len(text)
			})
		}
	}
}

// The library reads requests that are right as this reader does, but for chunks in HTTP/1.0.
func TestLibraryReadsTheSame(t *testing.T) {
	met := 0
	for seed := range int64(3000) {
		text := texts(rand.New(rand.NewSource(seed)))
		told, left, _ := model(text)
		if left != 0 || len(told) == 0 || told[len(told)-1].Bad != 0 || strings.Contains(text, "HTTP/1.0") {
			continue
		}
		in := bufio.NewReader(strings.NewReader(text))
		for i, e := range request.New().Feed([]byte(text)) {
			q, err := http.ReadRequest(in)
			if err != nil {
				t.Fatalf("%.400q: %v", text, err)
			}
			b, err := io.ReadAll(q.Body)
			if err != nil || q.Method != e.Request.Method || q.RequestURI != e.Request.Target || string(b) != e.Request.Body {
				t.Errorf("%.400q: request %d: %q %q %.90q %v", text, i, q.Method, q.RequestURI, b, err)
			}
			met++
		}
	}
	if met < 1000 {
		t.Error(met)
	}
}

func FuzzPieces(f *testing.F) {
	f.Add(get("a: b")+get("content-length: 2")+"\r\n"+chunked("2\r\n\r\n\r\n0\r\n\r\n"), int64(1))
	f.Add(chunked("2\r\nabcd"), int64(2))
	f.Fuzz(func(t *testing.T, text string, seed int64) { hold(t, text, rand.New(rand.NewSource(seed))) })
}
