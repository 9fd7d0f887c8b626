package forge_test

import (
	"bytes"
	"math"
	"slices"
	"strconv"
	"strings"
	"testing"

	"ingot/api"
	"ingot/forge"
	"ingot/hash"
	"ingot/patch"
)

var (
	top    = api.Vertex{}
	bottom = api.Vertex{Line: 1}
)

func times(n int) string { return strings.Repeat("a", n) }

func add(path string, up, down api.Vertex, lines ...string) api.Op {
	return api.Op{Kind: api.OpAdd, Path: path, Up: up, Down: down, Lines: lines}
}

func kill(path string, v api.Vertex) api.Op {
	return api.Op{Kind: api.OpKill, Path: path, Up: v}
}

// patchBy makes a patch that needs those whose lines it names.
func patchBy(author, note string, ops ...api.Op) api.Patch {
	p := api.Patch{Author: author, Note: note, Ops: ops}
	for _, op := range ops {
		for _, v := range []api.Vertex{op.Up, op.Down} {
			if v.Patch != (api.Hash{}) && !slices.Contains(p.Deps, v.Patch) {
				p.Deps = append(p.Deps, v.Patch)
			}
		}
	}
	slices.SortFunc(p.Deps, func(a, b api.Hash) int { return bytes.Compare(a[:], b[:]) })
	return p
}

// one makes a patch that adds a line to a path between Top and Bottom.
func one(author, path, line string) api.Patch {
	return patchBy(author, "", add(path, top, bottom, line))
}

func codeOf(p api.Patch) string {
	b, e := patch.Encode(p)
	if e != api.OK {
		panic(e)
	}
	return hash.Hex(b)
}

func sizeOf(p api.Patch) int { return len(codeOf(p)) / 2 }

func nameOf(p api.Patch) api.Hash {
	h, e := patch.Name(p)
	if e != api.OK {
		panic(e)
	}
	return h
}

func hexOf(p api.Patch) string {
	h := nameOf(p)
	return hash.Hex(h[:])
}

func form(l ...string) []api.Pair {
	var out []api.Pair
	for i := 0; i < len(l); i += 2 {
		out = append(out, api.Pair{Key: l[i], Value: l[i+1]})
	}
	return out
}

// world is a forge, the tick of its calls, and the tokens of those who call.
type world struct {
	*testing.T
	f      *forge.Forge
	now    int
	tokens map[string]string
}

// newWorld has the users ann, bob, cy and dee, whose tokens hold up to the tick 1000000; ann's organisation o, of which bob is a member, with the channel main.
func newWorld(t *testing.T, limits ...string) *world {
	t.Helper()
	w := &world{t, forge.New([]byte("k")), 0, map[string]string{}}
	for _, user := range []string{"ann", "bob", "cy", "dee"} {
		w.enter(user)
	}
	w.made("o\n", "ann", api.Call{Kind: api.CallOrg}, append([]string{"name", "o"}, limits...)...)
	w.made("", "ann", api.Call{Kind: api.CallChannel, Org: "o"}, "name", "main")
	w.answer("", "ann", api.Call{Kind: api.CallJoin, Org: "o", Arg: "bob"}, "role", "member")
	return w
}

// enter signs a user up, and keeps a token of theirs.
func (w *world) enter(user string) {
	w.Helper()
	w.made(user+"\n", "", api.Call{Kind: api.CallSignup}, "name", user, "secret", "s-"+user)
	w.tokens[user] = w.token(user, 1000000-w.now)
}

func (w *world) token(user string, length int) string {
	w.Helper()
	r := w.do("", api.Call{Kind: api.CallToken}, "user", user, "secret", "s-"+user, "for", strconv.Itoa(length))
	if r.Status != 201 || r.Type != "text/plain" || !strings.HasSuffix(r.Body, "\n") {
		w.Fatal(r)
	}
	return strings.TrimSuffix(r.Body, "\n")
}

// do carries a call of a user out; one that did not answer, or only reads, must have left the state as it was.
func (w *world) do(user string, c api.Call, l ...string) api.Reply {
	w.Helper()
	if user != "" {
		c.Token = w.tokens[user]
	}
	c.Form = form(l...)
	before := w.f.Dump()
	r := w.f.Do(c, w.now)
	if (r.Status != 200 && r.Status != 201 || isRead(c.Kind)) && !slices.Equal(before, w.f.Dump()) {
		w.Errorf("%v: %v, and something has changed", c, r)
	}
	return r
}

func isRead(kind int) bool {
	return kind == api.CallText || kind == api.CallLog || kind == api.CallProposal || kind == api.CallAudit
}

func (w *world) is(got, want api.Reply, c api.Call, l []string) {
	w.Helper()
	if got != want {
		w.Errorf("%v %.200q: %v, not %v", c, l, got, want)
	}
}

func (w *world) answer(text, user string, c api.Call, l ...string) {
	w.Helper()
	w.is(w.do(user, c, l...), api.Reply{Status: 200, Type: "text/plain", Body: text}, c, l)
}

func (w *world) made(text, user string, c api.Call, l ...string) {
	w.Helper()
	w.is(w.do(user, c, l...), api.Reply{Status: 201, Type: "text/plain", Body: text}, c, l)
}

func (w *world) refuse(status int, user string, c api.Call, l ...string) {
	w.Helper()
	w.is(w.do(user, c, l...), api.Reply{Status: status}, c, l)
}

func (w *world) fail(e api.Errno, user string, c api.Call, l ...string) {
	w.Helper()
	w.is(w.do(user, c, l...), api.Reply{Status: statuses[e], Type: "text/plain", Body: strconv.Itoa(int(e)) + "\n"}, c, l)
}

// apply applies a patch of its author's to main.
func (w *world) apply(p api.Patch) {
	w.Helper()
	w.made(hexOf(p)+"\n", p.Author, in(api.CallApply, "main"), "patch", codeOf(p))
}

// propose proposes a patch of its author's for main, under a number that is the next one.
func (w *world) propose(id int, p api.Patch) {
	w.Helper()
	w.made(strconv.Itoa(id)+"\n", p.Author, in(api.CallPropose, "main"), "patch", codeOf(p))
}

func (w *world) rule(number int, l ...string) {
	w.Helper()
	w.made(strconv.Itoa(number)+"\n", "ann", api.Call{Kind: api.CallRule, Org: "o"}, l...)
}

// allowAll lets bob read and write all.
func (w *world) allowAll() {
	w.Helper()
	w.rule(1, "who", "u:bob", "right", "read")
	w.rule(2, "who", "u:bob", "right", "write")
}

// value tells the value of a key of Dump.
func (w *world) value(key string) string {
	w.Helper()
	for _, p := range w.f.Dump() {
		if p.Key == key {
			return p.Value
		}
	}
	w.Errorf("no key %q", key)
	return ""
}

func (w *world) holds(key, value string) {
	w.Helper()
	if got := w.value(key); got != value {
		w.Errorf("%s: %q, not %q", key, got, value)
	}
}

// in makes a call that names a channel of o.
func in(kind int, channel string) api.Call {
	return api.Call{Kind: kind, Org: "o", Channel: channel}
}

// at makes a call that names a proposal of o.
func at(kind, id int) api.Call { return api.Call{Kind: kind, Org: "o", Id: id} }

// of makes a call that names something of o.
func of(kind int, arg string) api.Call { return api.Call{Kind: kind, Org: "o", Arg: arg} }

func file(channel, path string) api.Call {
	return api.Call{Kind: api.CallText, Org: "o", Channel: channel, Arg: path}
}

// The chapter's example.
func TestExample(t *testing.T) {
	w := &world{t, forge.New([]byte("k")), 1, map[string]string{}}
	w.made("ann\n", "", api.Call{Kind: api.CallSignup}, "name", "ann", "secret", "s")
	r := w.do("", api.Call{Kind: api.CallToken}, "user", "ann", "secret", "s", "for", "100")
	if r.Status != 201 || !strings.HasPrefix(r.Body, "1.ann.101.") || len(r.Body) != len("1.ann.101.")+65 {
		t.Error(r)
	}
	w.tokens["ann"] = strings.TrimSuffix(r.Body, "\n")
	w.made("o\n", "ann", api.Call{Kind: api.CallOrg}, "name", "o")
	w.made("", "ann", api.Call{Kind: api.CallChannel, Org: "o"}, "name", "main")
	w.fail(api.ErrMissing, "ann", file("main", "a"))
}

// The document's examples of the whole, 1 to 8.
func TestExamplesOfTheWhole(t *testing.T) {
	w := newWorld(t, "bytes", "300")
	w.allowAll()
	first, second := one("ann", "a", "one"), one("bob", "a", "two")
	w.apply(first)
	w.answer("conflicts 0\none\n", "bob", file("main", "a"))
	w.apply(second)
	r := w.do("ann", file("main", "a"))
	if r.Body != "conflicts 1\none\ntwo\n" && r.Body != "conflicts 1\ntwo\none\n" {
		t.Error(r)
	}
	w.made("", "ann", in(api.CallChannel, ""), "name", "other")
	for _, p := range []api.Patch{second, first} {
		w.made(hexOf(p)+"\n", p.Author, in(api.CallApply, "other"), "patch", codeOf(p))
	}
	w.answer(r.Body, "bob", file("other", "a"))
	w.answer("", "ann", api.Call{Kind: api.CallUnapply, Org: "o", Channel: "main", Arg: hexOf(first)})
	w.answer("conflicts 0\ntwo\n", "ann", file("main", "a"))
	third := patchBy("ann", "", add("a", api.Vertex{Patch: nameOf(second)}, bottom, "three"))
	w.apply(third)
	w.fail(api.ErrNeeded, "ann", api.Call{Kind: api.CallUnapply, Org: "o", Channel: "main", Arg: hexOf(second)})

	w.answer("", "ann", in(api.CallPolicy, "main"), "approvals", "1")
	fourth := one("ann", "b", "four")
	w.refuse(403, "ann", in(api.CallApply, "main"), "patch", codeOf(fourth))
	w.propose(1, fourth)
	queue := api.Call{Kind: api.CallQueue, Org: "o", Channel: "main", Id: 1}
	w.answer("0\n", "ann", queue)
	w.answer("1 2 130\n", "ann", in(api.CallMerge, "main"))
	w.answer("", "bob", at(api.CallVote, 1), "vote", "yes")
	w.answer("0\n", "ann", queue)
	w.answer("1 1 0\n", "ann", in(api.CallMerge, "main"))
	w.answer("conflicts 0\nfour\n", "ann", file("main", "b"))

	w.refuse(403, "cy", file("main", "a"))
	w.answer("", "cy", in(api.CallLog, "main"))
	turned := []byte(w.tokens["ann"])
	turned[len(turned)-1] ^= 1
	w.tokens["turned"] = string(turned)
	w.fail(api.ErrToken, "turned", file("main", "a"))
	w.answer("", "ann", in(api.CallPolicy, "main"), "approvals", "0")
	w.fail(api.ErrQuota, "ann", in(api.CallApply, "main"), "patch", codeOf(one("ann", "c", times(200))))
}

// statuses is the chapter's list.
var statuses = map[api.Errno]int{
	api.OK:     200,
	api.ErrArg: 422, api.ErrName: 422, api.ErrText: 422, api.ErrHead: 422, api.ErrDeps: 422, api.ErrOp: 422, api.ErrCode: 422, api.ErrOrder: 422, api.ErrLoop: 422,
	api.ErrMissing: 404,
	api.ErrThere:   409, api.ErrNeeded: 409, api.ErrLast: 409, api.ErrOwn: 409, api.ErrClosed: 409, api.ErrConflict: 409, api.ErrOver: 409,
	api.ErrLong: 507, api.ErrQuota: 507, api.ErrFull: 507,
	api.ErrRate:  429,
	api.ErrToken: 401, api.ErrRevoked: 401, api.ErrExpired: 401,
}

// Status: of each number.
func TestStatus(t *testing.T) {
	numbers := []api.Errno{math.MinInt, math.MaxInt, 1 << 32, 2 + 1<<32, -1 << 40}
	for n := range api.Errno(2001) {
		numbers = append(numbers, n-1000)
	}
	for _, e := range numbers {
		want, is := statuses[e]
		if !is {
			want = 500
		}
		if got := forge.Status(e); got != want {
			t.Errorf("%d: %d, not %d", int(e), got, want)
		}
	}
	for e, want := range map[api.Errno]int{2: 422, 150: 422, 20: 422, 100: 422, 101: 422, 102: 422, 103: 422, 112: 422, 120: 422, 111: 404, 110: 409, 130: 409, 151: 409, 200: 409, 201: 409, 81: 409, 82: 409, 3: 507, 180: 507, 60: 507, 181: 429, 160: 401, 161: 401, 162: 401, 1: 500, 80: 500, 50: 500} {
		if got := forge.Status(e); got != want {
			t.Errorf("%d: %d, not %d", int(e), got, want)
		}
	}
}

// P26.1: kinds that are none, ahead of all else.
func TestNoKind(t *testing.T) {
	w := newWorld(t)
	for _, kind := range []int{0, -1, 25, 26, 100, math.MinInt, math.MaxInt, 1 + 1<<32, 4 - 1<<32} {
		w.refuse(404, "", api.Call{Kind: kind})
		w.refuse(404, "ann", api.Call{Kind: kind, Org: "o", Channel: "main", Arg: times(1000)}, "name", "eve", "secret", "s")
	}
}

// P26.1: the tick never falls, is at least 0 and at most MaxTime; each call has one, whatever becomes of it.
func TestTick(t *testing.T) {
	f := forge.New(nil)
	f.Do(api.Call{Kind: api.CallSignup, Form: form("name", "ann", "secret", "s")}, 0)
	until := func(now int) string {
		t.Helper()
		r := f.Do(api.Call{Kind: api.CallToken, Form: form("user", "ann", "secret", "s", "for", "10")}, now)
		if r.Status != 201 {
			return strconv.Itoa(r.Status)
		}
		return strings.Split(r.Body, ".")[2]
	}
	others := []api.Call{{}, {Kind: 99}, {Kind: api.CallSignup}, {Kind: api.CallToken}, {Kind: api.CallRevoke}, {Kind: api.CallOrg}, {Kind: api.CallText, Org: "o"}}
	if got := until(-5); got != "10" {
		t.Error(got)
	}
	if got := until(math.MinInt); got != "10" {
		t.Error(got)
	}
	if got := until(7); got != "17" {
		t.Error(got)
	}
	if got := until(3); got != "17" {
		t.Error(got)
	}
	for i, c := range others {
		now := 20 + i
		f.Do(c, now)
		if got := until(-1); got != strconv.Itoa(now+10) {
			t.Error(c, got)
		}
	}
	if got := until(api.MaxTime - 10); got != strconv.Itoa(api.MaxTime) {
		t.Error(got)
	}
	if got := until(api.MaxTime - 9); got != "422" {
		t.Error(got)
	}
	if got := until(0); got != "422" {
		t.Error(got)
	}
}

// P26.1: times far beyond MaxTime count as MaxTime; the audit log tells them.
func TestLastTick(t *testing.T) {
	w := newWorld(t)
	w.now = api.MaxTime - 999999999999
	w.tokens["ann"] = w.token("ann", 999999999999) // up to MaxTime: it is over at the last tick
	w.now = api.MaxTime - 1
	w.made("", "ann", in(api.CallChannel, ""), "name", "x")
	if r := w.do("ann", in(api.CallAudit, "")); !strings.Contains(r.Body, "4 1099511627775 ann 11   0\n") {
		t.Error(r.Body)
	}
	for _, now := range []int{api.MaxTime, api.MaxTime + 1, math.MaxInt} {
		w.now = now
		w.fail(api.ErrExpired, "ann", in(api.CallChannel, ""), "name", "y")
		w.made("z"+strconv.Itoa(now%7)+"\n", "", api.Call{Kind: api.CallSignup}, "name", "z"+strconv.Itoa(now%7), "secret", "s")
	}
	w.now = 0
	w.fail(api.ErrExpired, "ann", in(api.CallChannel, ""), "name", "y")
}

// kinds are all of them from CallRevoke on.
func kinds() []int {
	var out []int
	for kind := api.CallRevoke; kind <= api.CallAudit; kind++ {
		out = append(out, kind)
	}
	return out
}

// P26.1, P26.7: without a token that holds no kind from CallRevoke on does anything, whatever else is wrong with the call.
func TestTokenFirst(t *testing.T) {
	w := newWorld(t)
	w.tokens["none"], w.tokens["other"], w.tokens["long"] = "", "1.ann.1000000."+strings.Repeat("0", 64), times(1<<16)
	w.tokens["short"] = w.token("ann", 3)
	w.tokens["back"] = w.token("ann", 100)
	w.answer("", "ann", api.Call{Kind: api.CallRevoke, Arg: w.tokens["back"]})
	w.now = 3
	for _, kind := range kinds() {
		for _, c := range []api.Call{
			{Kind: kind, Org: "o", Channel: "main", Arg: "bob", Id: 1}, {Kind: kind, Org: "none"}, {Kind: kind, Org: "o", Arg: times(1000)},
		} {
			l := []string{"name", "x", "role", "owner", "who", "*", "right", "read", "approvals", "1", "to", "y", "patch", codeOf(one("ann", "a", "x"))}
			for _, user := range []string{"none", "other", "long"} {
				w.fail(api.ErrToken, user, c, l...)
			}
			w.fail(api.ErrExpired, "short", c, l...)
			w.fail(api.ErrRevoked, "back", c, l...)
		}
	}
}

// P26.1: a What of MaxWhat bytes may be, one more may not; ahead of what is asked of the organisation. Kinds that only read, and those ahead of CallOrg, have none.
func TestWhat(t *testing.T) {
	w := newWorld(t)
	for _, kind := range kinds() {
		room := api.MaxWhat - len(strconv.Itoa(kind)) - len("   0")
		for _, c := range []api.Call{
			{Kind: kind, Arg: times(room + 1)}, {Kind: kind, Channel: times(room + 1)}, {Kind: kind, Channel: times(room), Arg: "x"}, {Kind: kind, Arg: times(room), Id: 10}, {Kind: kind, Arg: times(room-2) + "/"}, {Kind: kind, Channel: times(1 << 20)},
		} {
			for _, org := range []string{"o", "none", ""} {
				c.Org = org
				r := w.do("cy", c)
				long := r == api.Reply{Status: 507, Type: "text/plain", Body: "3\n"}
				if long != (kind != api.CallRevoke && !isRead(kind)) {
					t.Error(kind, len(c.Channel), len(c.Arg), c.Id, r)
				}
			}
		}
		for _, c := range []api.Call{{Kind: kind, Arg: times(room)}, {Kind: kind, Channel: times(room - 4), Arg: " /", Id: -12}, {Kind: kind, Arg: times(room - 9), Id: 1234567890}} {
			c.Org = "none"
			if r := w.do("cy", c); r.Status == 507 {
				t.Error(kind, len(c.Channel), len(c.Arg), c.Id, r)
			}
		}
	}
	// A call whose What has just MaxWhat bytes is noted whole.
	c := api.Call{Kind: api.CallChannel, Org: "o", Channel: "a b\n" + times(100), Arg: times(391), Id: 1234567890}
	w.made("", "ann", c, "name", "y")
	what := "11 a+b%0A" + times(100) + " " + c.Arg + " 1234567890"
	if r := w.do("ann", in(api.CallAudit, "")); len(what) != api.MaxWhat || !strings.Contains(r.Body, "4 0 ann "+what+"\n") {
		t.Error(len(what), r.Body)
	}
}

// P26.1: an organisation that is not there is refused, ahead of all else but the token and What.
func TestNoOrg(t *testing.T) {
	w := newWorld(t)
	for _, kind := range kinds() {
		if kind < api.CallJoin {
			continue
		}
		for _, org := range []string{"", "p", "O", "o ", "oo", times(1 << 16)} {
			w.refuse(404, "ann", api.Call{Kind: kind, Org: org, Channel: "main", Arg: "a", Id: 1})
			w.refuse(404, "dee", api.Call{Kind: kind, Org: org, Channel: "none"})
		}
	}
}

// P26.1: each user has a meter in each organisation; a call that does not answer counts, one that comes too often does not.
func TestRate(t *testing.T) {
	w := newWorld(t, "rate", "4", "window", "10")
	w.made("p\n", "ann", api.Call{Kind: api.CallOrg}, "name", "p", "rate", "1", "window", "5")
	// ann has called twice in o since it began; CallOrg is no call in it.
	w.fail(api.ErrMissing, "ann", file("none", "a"))
	w.refuse(404, "ann", api.Call{Kind: api.CallText, Org: "none"})
	w.answer("", "ann", in(api.CallLog, "main"))
	for _, kind := range kinds()[2:] {
		w.fail(api.ErrRate, "ann", api.Call{Kind: kind, Org: "o", Channel: "none"})
	}
	for range 4 {
		w.answer("", "bob", in(api.CallLog, "main"))
		w.refuse(403, "dee", in(api.CallChannel, ""), "name", "x")
	}
	w.fail(api.ErrRate, "bob", in(api.CallLog, "main"))
	w.fail(api.ErrRate, "dee", in(api.CallChannel, ""), "name", "x")
	w.made("", "ann", api.Call{Kind: api.CallChannel, Org: "p"}, "name", "main")
	w.fail(api.ErrRate, "ann", api.Call{Kind: api.CallLog, Org: "p", Channel: "main"})
	w.now = 9
	w.fail(api.ErrRate, "ann", in(api.CallLog, "main"))
	w.answer("", "ann", api.Call{Kind: api.CallLog, Org: "p", Channel: "main"})
	w.fail(api.ErrRate, "ann", api.Call{Kind: api.CallLog, Org: "p", Channel: "main"})
	w.now = 10
	for range 4 {
		w.answer("", "ann", in(api.CallLog, "main"))
	}
	w.fail(api.ErrRate, "ann", in(api.CallLog, "main"))
	w.now = 0 // the tick stays
	w.fail(api.ErrRate, "ann", in(api.CallLog, "main"))
	w.now = 1000
	w.answer("", "ann", in(api.CallLog, "main"))
}

// P26.1: with a rate of 0 nothing is called in an organisation, not even by its owner.
func TestNoRate(t *testing.T) {
	w := newWorld(t)
	w.made("p\n", "ann", api.Call{Kind: api.CallOrg}, "name", "p", "rate", "0")
	for _, kind := range kinds()[2:] {
		w.fail(api.ErrRate, "ann", api.Call{Kind: kind, Org: "p"}, "name", "main")
	}
}

// P26.1: an audit log of MaxEntries takes no more: asked behind the hit and ahead of what the kind asks; reading goes on.
func TestFullLog(t *testing.T) {
	f := forge.New(nil)
	w := &world{t, f, 0, map[string]string{}}
	for _, user := range []string{"ann", "bob"} {
		w.enter(user)
	}
	w.made("o\n", "ann", api.Call{Kind: api.CallOrg}, "name", "o", "rate", "5000", "window", "1")
	w.made("", "ann", in(api.CallChannel, ""), "name", "main")
	w.apply(one("ann", "a", "x"))
	policy := in(api.CallPolicy, "main")
	policy.Token, policy.Form = w.tokens["ann"], form("approvals", "0")
	for i := 3; i < api.MaxEntries; i++ {
		if r := f.Do(policy, 0); r.Status != 200 {
			t.Fatal(i, r)
		}
	}
	for _, kind := range kinds()[2:] {
		if !isRead(kind) {
			w.fail(api.ErrLong, "ann", api.Call{Kind: kind, Org: "o", Channel: "main", Arg: "a", Id: 1}, "name", "x")
			w.fail(api.ErrLong, "bob", api.Call{Kind: kind, Org: "o", Channel: "none"})
		}
	}
	w.answer("conflicts 0\nx\n", "ann", file("main", "a"))
	w.answer(hexOf(one("ann", "a", "x"))+"\n", "ann", in(api.CallLog, "main"))
	w.fail(api.ErrMissing, "ann", at(api.CallProposal, 1))
	if r := w.do("ann", in(api.CallAudit, "")); r.Status != 200 || strings.Count(r.Body, "\n") != 4097 || !strings.Contains(r.Body, "\n4096 0 ann 13 main  0\n") {
		t.Error(r.Status, strings.Count(r.Body, "\n"))
	}
	// Another organisation's log has room.
	w.made("p\n", "ann", api.Call{Kind: api.CallOrg}, "name", "p")
	w.made("", "ann", api.Call{Kind: api.CallChannel, Org: "p"}, "name", "main")
}

// P26.1: calls beyond the rate are told so ahead of a log that is full, and both ahead of who is no owner.
func TestOrderOfTheFirst(t *testing.T) {
	w := newWorld(t, "rate", "2", "window", "1")
	w.refuse(403, "bob", in(api.CallChannel, ""), "name", "x")
	w.refuse(403, "bob", in(api.CallChannel, ""), "name", "x")
	w.fail(api.ErrRate, "bob", in(api.CallChannel, ""), "name", "x")
	w.fail(api.ErrLong, "bob", of(api.CallTeam, times(1000)))
	w.fail(api.ErrLong, "bob", api.Call{Kind: api.CallTeam, Org: "none", Arg: times(1000)})
}

// Rule 1: of a forge that no call made.
func TestNoForge(t *testing.T) {
	for _, f := range []*forge.Forge{nil, {}} {
		for kind := -1; kind <= 26; kind++ {
			if r := f.Do(api.Call{Kind: kind, Org: "o", Form: form("name", "ann", "secret", "s")}, 5); r != (api.Reply{}) {
				t.Error(kind, r)
			}
		}
		if len(f.Dump()) > 0 {
			t.Error(f.Dump())
		}
	}
}

// Rule 4: the secret and the form are neither changed nor kept; what Dump hands out is new memory.
func TestMemory(t *testing.T) {
	room := []byte("k!")
	f, g := forge.New(room[:1]), forge.New([]byte("k"))
	room[0] = 'x'
	l := form("name", "ann", "secret", "s", "spare", "room")
	for _, x := range []*forge.Forge{f, g} {
		x.Do(api.Call{Kind: api.CallSignup, Form: l[:2]}, 0)
	}
	if !slices.Equal(l, form("name", "ann", "secret", "s", "spare", "room")) {
		t.Error(l)
	}
	l[1].Value = "other"
	issue := api.Call{Kind: api.CallToken, Form: form("user", "ann", "secret", "s", "for", "9")}
	a, b := f.Do(issue, 0), g.Do(issue, 0)
	if a != b || a.Status != 201 || room[1] != '!' {
		t.Error(a, b)
	}
	if c := forge.New([]byte("other")); c.Do(api.Call{Kind: api.CallSignup, Form: form("name", "ann", "secret", "s")}, 0).Status != 201 || c.Do(issue, 0) == a {
		t.Error("another secret's token is the same")
	}
	dump := f.Dump()
	clear(dump[:cap(dump)])
	if got := f.Dump(); len(got) != 1 || got[0] != (api.Pair{Key: "user ann"}) {
		t.Error(got)
	}
}

// P26.1: a field is the first pair of its key.
func TestFirstField(t *testing.T) {
	w := newWorld(t)
	w.made("eve\n", "", api.Call{Kind: api.CallSignup}, "Name", "x", "name", "eve", "name", "fay", "secret", "1", "secret", "2")
	w.refuse(401, "", api.Call{Kind: api.CallToken}, "user", "eve", "secret", "2", "secret", "1", "for", "5")
	if r := w.do("", api.Call{Kind: api.CallToken}, "user", "eve", "secret", "1", "secret", "2", "for", "5", "for", "x"); r.Status != 201 {
		t.Error(r)
	}
	w.fail(api.ErrName, "", api.Call{Kind: api.CallSignup}, "name", "", "name", "gus", "secret", "1")
}
