package reply_test

import (
	"bufio"
	"io"
	"math/rand"
	"net/http"
	"regexp"
	"slices"
	"strconv"
	"strings"
	"testing"

	"ingot/api"
	"ingot/reply"
)

var head = regexp.MustCompile(`^HTTP/1\.1 ([1-9][0-9]{2}) ([A-Za-z ]+)\r\n(?:content-type: ([!-~](?:[ -~]{0,62}[!-~])?)\r\n)?content-length: (0|[1-9][0-9]{0,4})\r\n(connection: close\r\n)?\r\n`)

// model reads a reply by the words of the chapter.
func model(s string) (api.Reply, int, api.Errno) {
	m := head.FindStringSubmatch(s)
	if m == nil {
		return api.Reply{}, 0, api.ErrReply
	}
	status, _ := strconv.Atoi(m[1])
	size, _ := strconv.Atoi(m[4])
	reason, is := reasons[status]
	if !is {
		reason = "Status"
	}
	rest := s[len(m[0]):]
	if m[2] != reason || size > 65536 || size > len(rest) {
		return api.Reply{}, 0, api.ErrReply
	}
	return api.Reply{Status: status, Type: m[3], Body: rest[:size], Close: m[5] != ""}, len(m[0]) + size, api.OK
}

func hold(t *testing.T, s string) api.Errno {
	t.Helper()
	r, n, e := model(s)
	got, size, errno := reply.Read(s)
	if got != r || size != n || errno != e {
		t.Fatalf("%.400q: %v %d %d, not %v %d %d", s, got, size, int(errno), r, n, int(e))
	}
	if e == api.OK {
		if text, errno := reply.Print(r); text != s[:n] || errno != api.OK {
			t.Fatalf("%.400q: %.400q %d", s, text, int(errno))
		}
	}
	return e
}

func pick[T any](r *rand.Rand, of ...T) T { return of[r.Intn(len(of))] }

// some makes a reply by chance.
func some(r *rand.Rand) api.Reply {
	body := make([]byte, r.Intn(1+r.Intn(120)))
	r.Read(body)
	return api.Reply{
		Status: pick(r, 200, 201, 400, 404, 409, 413, 431, 507, 100+r.Intn(900), 999),
		Type:   pick(r, "", "", "x", "text/plain", "content-length: 0", "a b", strings.Repeat("z", 1+r.Intn(64))),
		Body:   pick(r, string(body), "", "\r\n", "connection: close\r\n\r\n"),
		Close:  r.Intn(2) == 0,
	}
}

// P24.3: texts of replies, with a piece of them changed, taken out or put in.
func TestTextsByChance(t *testing.T) {
	met := map[api.Errno]int{}
	pieces := []string{"", "\r\n", "\r", "\n", " ", "0", "9", "x", "content-type: ", "content-length: ", "connection: close\r\n", "HTTP/1.1 ", "OK", "\x00"}
	for seed := range int64(40000) {
		r := rand.New(rand.NewSource(seed))
		s, e := reply.Print(some(r))
		if e != api.OK {
			t.Fatal(int(e))
		}
		met[hold(t, s)]++
		for range r.Intn(3) {
			at := r.Intn(len(s) + 1)
			s = s[:at] + pick(r, pieces...) + s[min(len(s), at+r.Intn(4)):]
		}
		met[hold(t, s)]++
		met[hold(t, s[:r.Intn(len(s)+1)])]++
	}
	if met[api.OK] < 1000 || met[api.ErrReply] < 1000 {
		t.Error(met)
	}
}

// P24.3: each byte of a text turned into each other one.
func TestTurnedBytes(t *testing.T) {
	for _, r := range []api.Reply{{Status: 409, Type: "text/plain", Body: "a\r\nb", Close: true}, {Status: 200, Body: "0123456789a"}} {
		text, e := reply.Print(r)
		if e != api.OK {
			t.Fatal(int(e))
		}
		for i := range text {
			for b := range 256 {
				hold(t, text[:i]+string([]byte{byte(b)})+text[i+1:])
			}
			hold(t, text[:i]+text[i+1:])
		}
	}
}

// P24.4: replies one behind the other are read as they were.
func TestThereAndBack(t *testing.T) {
	for seed := range int64(1000) {
		r := rand.New(rand.NewSource(seed))
		var l []api.Reply
		var all string
		for range 1 + r.Intn(6) {
			x := some(r)
			text, e := reply.Print(x)
			if e != api.OK {
				t.Fatal(int(e))
			}
			l = append(l, x)
			all += text
		}
		for i, x := range l {
			got, n, e := reply.Read(all)
			if got != x || e != api.OK {
				t.Fatalf("reply %d: %v %d, not %v", i, got, int(e), x)
			}
			all = all[n:]
		}
		if all != "" {
			t.Errorf("%q is left", all)
		}
	}
}

// P24.5: texts of other replies do not begin one another; in order a text that begins others stands right ahead of one of them.
func TestOneText(t *testing.T) {
	texts := map[string]api.Reply{}
	for seed := range int64(20000) {
		x := some(rand.New(rand.NewSource(seed)))
		text, e := reply.Print(x)
		if e != api.OK {
			t.Fatal(int(e))
		}
		if y, is := texts[text]; is && y != x {
			t.Errorf("%v and %v: %q", x, y, text)
		}
		texts[text] = x
	}
	var l []string
	for text := range texts {
		l = append(l, text)
	}
	slices.Sort(l)
	for i := 1; i < len(l); i++ {
		if strings.HasPrefix(l[i], l[i-1]) {
			t.Errorf("%q begins %q", l[i-1], l[i])
		}
	}
	if len(l) < 5000 {
		t.Error(len(l))
	}
}

// The library reads replies as this package does.
func TestLibraryReadsTheSame(t *testing.T) {
	for seed := range int64(2000) {
		x := some(rand.New(rand.NewSource(seed)))
		if x.Status < 200 || x.Status == 204 || x.Status == 304 {
			continue
		}
		text, e := reply.Print(x)
		if e != api.OK {
			t.Fatal(int(e))
		}
		got, err := http.ReadResponse(bufio.NewReader(strings.NewReader(text)), nil)
		if err != nil {
			t.Fatalf("%q: %v", text, err)
		}
		body, err := io.ReadAll(got.Body)
		if err != nil || got.StatusCode != x.Status || string(body) != x.Body || got.Close != x.Close || got.Header.Get("content-type") != x.Type || got.Status != strconv.Itoa(x.Status)+" "+reply.Reason(x.Status) {
			t.Errorf("%q: %v %v", text, got, err)
		}
	}
}

func FuzzRead(f *testing.F) {
	f.Add("HTTP/1.1 200 OK\r\ncontent-type: text/plain\r\ncontent-length: 2\r\n\r\nhi")
	f.Add("HTTP/1.1 299 Status\r\ncontent-length: 0\r\nconnection: close\r\n\r\n")
	f.Fuzz(func(t *testing.T, s string) { hold(t, s) })
}
