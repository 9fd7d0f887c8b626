package route_test

import (
	"math"
	"slices"
	"strconv"
	"strings"
	"testing"

	"ingot/api"
	"ingot/fields"
	"ingot/request"
	"ingot/route"
)

func times(n int) string { return strings.Repeat("a", n) }

func same(a, b api.Call) bool {
	return a.Kind == b.Kind && a.Token == b.Token && a.Org == b.Org && a.Channel == b.Channel && a.Arg == b.Arg && a.Id == b.Id && slices.Equal(a.Form, b.Form)
}

func sameRequest(a, b api.Request) bool {
	return a.Method == b.Method && a.Target == b.Target && slices.Equal(a.Headers, b.Headers) && a.Body == b.Body && a.Keep == b.Keep
}

func wantCall(t *testing.T, q api.Request, c api.Call) {
	t.Helper()
	if got, status := route.Read(q); status != 0 || !same(got, c) {
		t.Errorf("%s %.200q: %v %d, not %v", q.Method, q.Target, got, status, c)
	}
}

func wantStatus(t *testing.T, q api.Request, status int) {
	t.Helper()
	if got, is := route.Read(q); is != status || !same(got, api.Call{}) || got.Form != nil {
		t.Errorf("%s %.200q: %v %d, not %d", q.Method, q.Target, got, is, status)
	}
}

// row is one of the chapter's table, with a target of it and the call that this stands for.
type row struct {
	method, target string
	call           api.Call
}

var rows = []row{
	{"POST", "/users", api.Call{Kind: 1}},
	{"POST", "/tokens", api.Call{Kind: 2}},
	{"DELETE", "/tokens/1.ann.9.0a", api.Call{Kind: 3, Arg: "1.ann.9.0a"}},
	{"POST", "/orgs", api.Call{Kind: 4}},
	{"PUT", "/orgs/o/members/bob", api.Call{Kind: 5, Org: "o", Arg: "bob"}},
	{"DELETE", "/orgs/o/members/bob", api.Call{Kind: 6, Org: "o", Arg: "bob"}},
	{"POST", "/orgs/o/teams", api.Call{Kind: 7, Org: "o"}},
	{"PUT", "/orgs/o/teams/ops", api.Call{Kind: 8, Org: "o", Arg: "ops"}},
	{"POST", "/orgs/o/rules", api.Call{Kind: 9, Org: "o"}},
	{"DELETE", "/orgs/o/rules/12", api.Call{Kind: 10, Org: "o", Id: 12}},
	{"POST", "/orgs/o/channels", api.Call{Kind: 11, Org: "o"}},
	{"POST", "/orgs/o/channels/main/fork", api.Call{Kind: 12, Org: "o", Channel: "main"}},
	{"PUT", "/orgs/o/channels/main/policy", api.Call{Kind: 13, Org: "o", Channel: "main"}},
	{"POST", "/orgs/o/channels/main/patches", api.Call{Kind: 14, Org: "o", Channel: "main"}},
	{"DELETE", "/orgs/o/channels/main/patches/0a", api.Call{Kind: 15, Org: "o", Channel: "main", Arg: "0a"}},
	{"GET", "/orgs/o/channels/main/files/a/b", api.Call{Kind: 16, Org: "o", Channel: "main", Arg: "a/b"}},
	{"GET", "/orgs/o/channels/main/log", api.Call{Kind: 17, Org: "o", Channel: "main"}},
	{"POST", "/orgs/o/channels/main/proposals", api.Call{Kind: 18, Org: "o", Channel: "main"}},
	{"POST", "/orgs/o/proposals/7/votes", api.Call{Kind: 19, Org: "o", Id: 7}},
	{"POST", "/orgs/o/proposals/7/talk", api.Call{Kind: 20, Org: "o", Id: 7}},
	{"GET", "/orgs/o/proposals/7", api.Call{Kind: 21, Org: "o", Id: 7}},
	{"POST", "/orgs/o/channels/main/queue/7", api.Call{Kind: 22, Org: "o", Channel: "main", Id: 7}},
	{"POST", "/orgs/o/channels/main/merge", api.Call{Kind: 23, Org: "o", Channel: "main"}},
	{"GET", "/orgs/o/audit", api.Call{Kind: 24, Org: "o"}},
}

// The chapter's examples.
func TestExamples(t *testing.T) {
	wantCall(t, api.Request{Method: "GET", Target: "/orgs/o/channels/main/files/a/b"}, api.Call{Kind: api.CallText, Org: "o", Channel: "main", Arg: "a/b"})
	wantStatus(t, api.Request{Method: "POST", Target: "/orgs/o/audit"}, 405)
	wantStatus(t, api.Request{Method: "GET", Target: "/x"}, 404)
	wantStatus(t, api.Request{Method: "GET", Target: "/orgs/O/audit"}, 400)
}

// P25.1, P25.2: each row of the table, with and without a token and a form.
func TestRows(t *testing.T) {
	for _, r := range rows {
		wantCall(t, api.Request{Method: r.method, Target: r.target}, r.call)
		wantPrinted(t, r.call, api.Request{Method: r.method, Target: r.target, Keep: true})
		c := r.call
		c.Token = "1.ann.9.0a"
		token := api.Pair{Key: "authorization", Value: "Bearer 1.ann.9.0a"}
		wantPrinted(t, c, api.Request{Method: r.method, Target: r.target, Headers: []api.Pair{token}, Keep: true})
		c.Form = []api.Pair{{Key: "a b", Value: "é"}, {}}
		size := api.Pair{Key: "content-length", Value: "12"}
		wantPrinted(t, c, api.Request{Method: r.method, Target: r.target, Headers: []api.Pair{token, size}, Body: "a+b=%C3%A9&=", Keep: true})
		c.Token = ""
		wantPrinted(t, c, api.Request{Method: r.method, Target: r.target, Headers: []api.Pair{size}, Body: "a+b=%C3%A9&=", Keep: true})
	}
}

// wantPrinted holds what is printed of a call, and P25.3: that it is read as it was, also out of the bytes of a request.
func wantPrinted(t *testing.T, c api.Call, q api.Request) {
	t.Helper()
	got, e := route.Print(c)
	if e != api.OK || !sameRequest(got, q) {
		t.Fatalf("%v: %v %d, not %v", c, got, int(e), q)
	}
	wantCall(t, got, c)
	text, e := request.Print(got)
	if e != api.OK {
		t.Fatal(int(e))
	}
	told := request.New().Feed([]byte(text))
	if len(told) != 1 || told[0].Bad != 0 {
		t.Fatal(told)
	}
	wantCall(t, told[0].Request, c)
}

// P25.1: each target with each method: 405, unless a row has both.
func TestMethods(t *testing.T) {
	for _, r := range rows {
		for _, method := range []string{"GET", "POST", "PUT", "DELETE", "HEAD", "PATCH", "", "get", "Post", "POST ", "GETS"} {
			at := slices.IndexFunc(rows, func(o row) bool { return o.target == r.target && o.method == method })
			if at < 0 {
				wantStatus(t, api.Request{Method: method, Target: r.target}, 405)
				continue
			}
			wantCall(t, api.Request{Method: method, Target: r.target}, rows[at].call)
		}
	}
}

// P25.1: targets that have no shape, whatever the method.
func TestNoShape(t *testing.T) {
	for _, target := range []string{
		"", "/", "//", "x", "/x", "users", "tokens", "orgs", "orgs/o/audit", "/users/", "/users/x", "//users", "/Users", "/users?x", "/user", "/userss", "/ users", " /users",
		"/tokens/x/", "/tokens/x/y", "/tokens//", "/orgs/", "/orgs/o", "/orgs/o/", "/orgs/o/x", "/orgs/o/audit/", "/orgs/o/audit/x", "/orgs/o/Audit", "/Orgs/o/audit", "/orgs/o/members", "/orgs/o/members/a/", "/orgs/o/members/a/b",
		"/orgs/o/teams/a/b", "/orgs/o/rules/1/", "/orgs/o/rules/1/2", "/orgs/o/channels/c", "/orgs/o/channels/c/", "/orgs/o/channels/c/x", "/orgs/o/channels/c/files", "/orgs/o/channels/c/log/", "/orgs/o/channels/c/log/x",
		"/orgs/o/channels/c/policy/x", "/orgs/o/channels/c/merge/", "/orgs/o/channels/c/fork/x", "/orgs/o/channels/c/proposals/1", "/orgs/o/channels/c/patches/a/b", "/orgs/o/channels/c/queue", "/orgs/o/channels/c/queue/1/", "/orgs/o/channels/c/queue/1/2",
		"/orgs/o/channels/c/d/files/a", "/orgs/o/proposals", "/orgs/o/proposals/1/", "/orgs/o/proposals/1/votes/", "/orgs/o/proposals/1/vote", "/orgs/o/proposals/1/talk/1", "/orgs//o/audit", "/orgs/o//audit", "/ORG", "/orgs/ORG", "/ARG",
		strings.Repeat("/", 1<<20), "/" + times(1<<20), "/orgs/o/" + times(1<<20), strings.Repeat("/orgs", 1<<16),
	} {
		for _, method := range []string{"GET", "POST", "PUT", "DELETE", "", "X"} {
			wantStatus(t, api.Request{Method: method, Target: target}, 404)
			wantStatus(t, api.Request{Method: method, Target: target, Body: "%"}, 404)
		}
	}
}

var noNames = []string{"", "O", "1", "-", "-a", "a_b", "a.b", "a b", "é", "a\x00", "a?", "..", "ORG", "CHANNEL", times(17), times(1000)}

var someNames = []string{"a", "z9", "a-", "a--b", "audit", "orgs", "channels", "files", times(16)}

// P25.1: what an organisation's and a channel's part may be.
func TestNames(t *testing.T) {
	for _, r := range rows {
		if r.call.Org != "" {
			holdPart(t, r, "/o/", func(c *api.Call, part string) { c.Org = part }, someNames, noNames)
		}
		if r.call.Channel != "" {
			holdPart(t, r, "/main/", func(c *api.Call, part string) { c.Channel = part }, someNames, noNames)
		}
	}
}

// holdPart puts parts that are right, and wrong ones, in the place of one of a row's target.
func holdPart(t *testing.T, r row, place string, set func(c *api.Call, part string), right, wrong []string) {
	t.Helper()
	put := func(part string) api.Request {
		return api.Request{Method: r.method, Target: strings.TrimSuffix(strings.Replace(r.target+"/", place, "/"+part+"/", 1), "/")}
	}
	for _, part := range right {
		c := r.call
		set(&c, part)
		wantCall(t, put(part), c)
		q := put(part)
		q.Keep = true
		wantPrinted(t, c, q)
	}
	for _, part := range wrong {
		q := put(part)
		if part == "" {
			q.Target = strings.Replace(r.target+"/", place, "//", 1)
			q.Target = q.Target[:len(q.Target)-1]
		}
		wantStatus(t, q, 400)
		other := q
		other.Method = "X"
		wantStatus(t, other, 405)
	}
}

// P25.1: what a part of ARG may be: any bytes but a slash, 1 to 128 of them.
func TestArgs(t *testing.T) {
	right := []string{"a", "A", ".", "..", "%2F", "a b", "\x00", "\xff", "é", "ARG", "?", times(127), times(128)}
	for i := range 256 {
		if i != '/' {
			right = append(right, string([]byte{byte(i)}))
		}
	}
	for _, r := range rows {
		if r.call.Arg == "" || r.call.Kind == api.CallText {
			continue
		}
		base := strings.TrimSuffix(r.target, r.call.Arg)
		for _, part := range right {
			c := r.call
			c.Arg = part
			wantCall(t, api.Request{Method: r.method, Target: base + part}, c)
		}
		for _, part := range []string{"", times(129), times(1 << 16)} {
			wantStatus(t, api.Request{Method: r.method, Target: base + part}, 400)
			wantStatus(t, api.Request{Method: "X", Target: base + part}, 405)
		}
	}
}

// P25.1: what a number may be: 1 to 2^31 - 1, without noughts ahead.
func TestIds(t *testing.T) {
	for _, r := range rows {
		if r.call.Id == 0 {
			continue
		}
		place := "/" + strconv.Itoa(r.call.Id) + "/"
		set := func(c *api.Call, part string) { c.Id, _ = strconv.Atoi(part) }
		holdPart(t, r, place, set, []string{"1", "9", "10", "100", "2147483646", "2147483647"}, []string{
			"", "0", "00", "01", "007", "-1", "+1", "1x", "x", "1.0", "0x1", "1e1", "1_0", " 1", "1 ", "٣", "2147483648", "4294967297", "9223372036854775807", "9223372036854775808", "18446744073709551617", strings.Repeat("9", 1000), "ID",
		})
	}
}

// P25.1: what a path may be; it may have several parts.
func TestPaths(t *testing.T) {
	const base = "/orgs/o/channels/c/files/"
	eight := strings.Repeat("a/", 7) + "a"
	long := strings.Repeat(times(15)+"/", 3) + times(16) // 64 bytes
	for _, path := range []string{"a", "0", "a/b", "a/b/c", "-", "_", ".a", "...", "a.b_c-d", eight, long, "files/a", "orgs/o/channels/c/files/a", times(16)} {
		wantCall(t, api.Request{Method: "GET", Target: base + path}, api.Call{Kind: api.CallText, Org: "o", Channel: "c", Arg: path})
	}
	for _, path := range []string{"", "/", "a/", "/a", "a//b", ".", "..", "a/..", "A", "a b", "é", eight + "/a", long + "a", times(17), strings.Repeat("a/", 1<<16), strings.Repeat("/", 1<<20), "PATH"} {
		wantStatus(t, api.Request{Method: "GET", Target: base + path}, 400)
		wantStatus(t, api.Request{Method: "POST", Target: base + path}, 405)
	}
}

// P25.1: the body is a form, of all kinds.
func TestForms(t *testing.T) {
	most := strings.Repeat("a=b&", 63) + "a=b"
	for _, r := range rows {
		for body, form := range map[string][]api.Pair{
			"": nil, "=": {{}}, "a=": {{Key: "a"}}, "a=1&a=2": {{Key: "a", Value: "1"}, {Key: "a", Value: "2"}}, "%61=+%2f": {{Key: "a", Value: " /"}}, most: slices.Repeat([]api.Pair{{Key: "a", Value: "b"}}, 64), "a=" + times(16382): {{Key: "a", Value: times(16382)}},
		} {
			c := r.call
			c.Form = form
			wantCall(t, api.Request{Method: r.method, Target: r.target, Body: body}, c)
		}
		for _, body := range []string{"a", "&", "a=1&", "a=%", "a=%4", "a=%zz", "a=b=c", "é=1", "a=\n", most + "&a=b", "a=" + times(16383)} {
			wantStatus(t, api.Request{Method: r.method, Target: r.target, Body: body}, 400)
			wantStatus(t, api.Request{Method: "X", Target: r.target, Body: body}, 405)
		}
	}
}

func bearer(values ...string) []api.Pair {
	var out []api.Pair
	for _, v := range values {
		out = append(out, api.Pair{Key: "authorization", Value: v})
	}
	return out
}

// P25.1: which token a request shows.
func TestTokens(t *testing.T) {
	for _, c := range []struct {
		headers []api.Pair
		token   string
	}{
		{nil, ""},
		{bearer("Bearer x"), "x"},
		{bearer("Bearer x", "Bearer y"), "x"},
		{bearer("Basic x", "Bearer y"), "y"},
		{bearer("Bearer ", "Bearer y"), ""},
		{bearer("Bearer", "bearer z", "Bearer y z"), "y z"},
		{bearer("Bearer  x"), " x"},
		{bearer("bearer x"), ""},
		{bearer("BEARER x"), ""},
		{bearer("Bearer"), ""},
		{bearer("Bearerx"), ""},
		{bearer("Bearer\tx"), ""},
		{bearer(" Bearer x"), ""},
		{bearer(""), ""},
		{[]api.Pair{{Key: "Authorization", Value: "Bearer x"}}, ""},
		{[]api.Pair{{Key: "authorization2", Value: "Bearer x"}, {Key: "x", Value: "Bearer y"}, {Value: "Bearer z"}}, ""},
		{append([]api.Pair{{Key: "host", Value: "Bearer h"}}, bearer("Bearer x")...), "x"},
	} {
		wantCall(t, api.Request{Method: "POST", Target: "/users", Headers: c.headers}, api.Call{Kind: api.CallSignup, Token: c.token})
	}
}

// P25.1: Keep and all other headers say nothing.
func TestOtherHeaders(t *testing.T) {
	for _, h := range []api.Pair{{Key: "content-length", Value: "x"}, {Key: "connection", Value: "close"}, {}} {
		for _, keep := range []bool{true, false} {
			wantCall(t, api.Request{Method: "GET", Target: "/orgs/o/audit", Headers: []api.Pair{h}, Body: "a=b", Keep: keep}, api.Call{Kind: api.CallAudit, Org: "o", Form: []api.Pair{{Key: "a", Value: "b"}}})
		}
	}
}

func wantNotPrinted(t *testing.T, c api.Call) {
	t.Helper()
	if q, e := route.Print(c); e != api.ErrArg || !sameRequest(q, api.Request{}) || q.Headers != nil {
		t.Errorf("%.300v: %.300v %d", c, q, int(e))
	}
}

// P25.2: kinds that have no row.
func TestNoRow(t *testing.T) {
	for _, kind := range []int{0, -1, 25, 100, math.MinInt, math.MaxInt, 1 + 1<<32} {
		wantNotPrinted(t, api.Call{Kind: kind})
		wantNotPrinted(t, api.Call{Kind: kind, Org: "o", Channel: "c", Arg: "a", Id: 1})
	}
}

// P25.2: calls that have more, less or something else than their row has room for.
func TestNotPrinted(t *testing.T) {
	for _, r := range rows {
		for _, org := range []string{"", "O", "o/x", "o/channels", "o p", "/"} {
			c := r.call
			c.Org = org
			if org != r.call.Org {
				wantNotPrinted(t, c)
			}
		}
		for _, channel := range []string{"", "C", "c/x", "main/files"} {
			c := r.call
			c.Channel = channel
			if channel != r.call.Channel {
				wantNotPrinted(t, c)
			}
		}
		for _, arg := range []string{"", "a b", "é", "/", "a/", times(129), "a\r\nx: y", "x HTTP/1.1\r\n\r\n"} {
			c := r.call
			c.Arg = arg
			if arg != r.call.Arg {
				wantNotPrinted(t, c)
			}
		}
		for _, id := range []int{0, -1, math.MinInt, math.MaxInt, 1 << 31, 1 << 40} {
			c := r.call
			c.Id = id
			if id != r.call.Id {
				wantNotPrinted(t, c)
			}
		}
	}
	for _, r := range rows {
		for _, other := range rows {
			c := other.call
			c.Kind = r.call.Kind
			if at := slices.IndexFunc(rows, func(o row) bool { return same(o.call, c) }); at < 0 && !hasRoom(r.call, c) {
				wantNotPrinted(t, c)
			}
		}
	}
	wantNotPrinted(t, api.Call{Kind: api.CallRevoke, Arg: "a/b"})
	wantNotPrinted(t, api.Call{Kind: api.CallJoin, Org: "o", Arg: "a/b"})
	wantNotPrinted(t, api.Call{Kind: api.CallSignup, Id: 1})
	wantNotPrinted(t, api.Call{Kind: api.CallText, Org: "o", Channel: "c", Arg: "a//b"})
}

// hasRoom tells whether a call has just the parts that another one of its kind has.
func hasRoom(a, b api.Call) bool {
	return (a.Org == "") == (b.Org == "") && (a.Channel == "") == (b.Channel == "") && (a.Arg == "") == (b.Arg == "") && (a.Id == 0) == (b.Id == 0)
}

// P25.2: tokens, forms and heads that request.Print, or fields.Print, refuses.
func TestPrintLimits(t *testing.T) {
	audit := api.Call{Kind: api.CallAudit, Org: "o"}
	for _, token := range []string{" ", "x ", "x\t", "\r", "x\r\ny: z", "\n", "\x00", "é", "\x7f", times(2048)} {
		c := audit
		c.Token = token
		wantNotPrinted(t, c)
	}
	head := len("GET /orgs/o/audit HTTP/1.1\r\nauthorization: Bearer \r\n\r\n")
	audit.Token = times(2048 - head)
	wantPrinted(t, audit, api.Request{Method: "GET", Target: "/orgs/o/audit", Headers: bearer("Bearer " + audit.Token), Keep: true})
	audit.Token += "a"
	wantNotPrinted(t, audit)
	for _, token := range []string{"x", " x", "x y", "~", "Bearer x", "x\ty", "!"} {
		c := api.Call{Kind: api.CallAudit, Org: "o", Token: token}
		wantPrinted(t, c, api.Request{Method: "GET", Target: "/orgs/o/audit", Headers: bearer("Bearer " + token), Keep: true})
	}
	for _, n := range []int{1, 64} {
		c := api.Call{Kind: api.CallOrg, Form: make([]api.Pair, n)}
		wantPrinted(t, c, api.Request{Method: "POST", Target: "/orgs", Headers: []api.Pair{{Key: "content-length", Value: strconv.Itoa(2*n - 1)}}, Body: strings.Repeat("=&", n-1) + "=", Keep: true})
	}
	wantNotPrinted(t, api.Call{Kind: api.CallOrg, Form: make([]api.Pair, 65)})
	c := api.Call{Kind: api.CallOrg, Form: []api.Pair{{Key: "a", Value: times(8190)}}}
	wantPrinted(t, c, api.Request{Method: "POST", Target: "/orgs", Headers: []api.Pair{{Key: "content-length", Value: "8192"}}, Body: "a=" + times(8190), Keep: true})
	for _, n := range []int{8191, 16382, 16383, 1 << 20} {
		wantNotPrinted(t, api.Call{Kind: api.CallOrg, Form: []api.Pair{{Key: "a", Value: times(n)}}})
	}
	wantNotPrinted(t, api.Call{Kind: api.CallOrg, Form: []api.Pair{{Key: "a", Value: strings.Repeat(" é", 2000)}}})
	wantPrinted(t, api.Call{Kind: api.CallOrg, Form: []api.Pair{}}, api.Request{Method: "POST", Target: "/orgs", Keep: true})
}

// P25.2: an Arg of 128 bytes is written; its bytes must be those of a target.
func TestPrintArgs(t *testing.T) {
	for i := range 256 {
		c := api.Call{Kind: api.CallRevoke, Arg: string([]byte{byte(i)})}
		if i < 33 || i > 126 || i == '/' {
			wantNotPrinted(t, c)
			continue
		}
		wantPrinted(t, c, api.Request{Method: "DELETE", Target: "/tokens/" + c.Arg, Keep: true})
	}
	wantPrinted(t, api.Call{Kind: api.CallRevoke, Arg: times(128)}, api.Request{Method: "DELETE", Target: "/tokens/" + times(128), Keep: true})
}

// Rule 4: what is handed in is neither changed nor kept, and what is handed out is new memory.
func TestMemory(t *testing.T) {
	form := []api.Pair{{Key: "a", Value: "1"}, {Key: "b", Value: "2"}}
	c := api.Call{Kind: api.CallOrg, Token: "t", Form: form[:1]}
	q, _ := route.Print(c)
	text, _ := fields.Print(form[:1])
	form[0].Value = "x"
	if form[1].Value != "2" || q.Body != text {
		t.Error(form, q)
	}
	clear(q.Headers[:cap(q.Headers)])
	again, _ := route.Print(api.Call{Kind: api.CallOrg, Token: "t", Form: []api.Pair{{Key: "a", Value: "1"}}})
	if len(again.Headers) != 2 || again.Headers[0].Key != "authorization" || again.Headers[1].Key != "content-length" {
		t.Error(again)
	}
	headers := append(bearer("Basic x", "Bearer y"), api.Pair{Key: "z"})
	got, _ := route.Read(api.Request{Method: "POST", Target: "/orgs", Headers: headers[:2], Body: "a=1&b=2"})
	clear(got.Form[:cap(got.Form)])
	if !slices.Equal(headers, append(bearer("Basic x", "Bearer y"), api.Pair{Key: "z"})) {
		t.Error(headers)
	}
	wantCall(t, api.Request{Method: "POST", Target: "/orgs", Headers: headers[:2], Body: "a=1&b=2"}, api.Call{Kind: api.CallOrg, Token: "y", Form: []api.Pair{{Key: "a", Value: "1"}, {Key: "b", Value: "2"}}})
	wantCall(t, api.Request{Method: "POST", Target: "/orgs", Headers: headers[:1], Body: "a=1&b=2"}, api.Call{Kind: api.CallOrg, Form: []api.Pair{{Key: "a", Value: "1"}, {Key: "b", Value: "2"}}})
}
